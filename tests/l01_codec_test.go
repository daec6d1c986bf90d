package tests

import (
	"math/rand"
	"slices"
	"strings"
	"testing"

	"loop.example/g00226/impl"
)

// behinds: what may stand behind an item without changing what it is.
var behinds = []string{"", "z", "\x00", "\x80", "\xc0", "\xff\xff\xff", "\xb8\x38"}

func letters(n int) string { return strings.Repeat("m", n) }

func wantTaken(t *testing.T, s string, kind int64, body, rest string) {
	t.Helper()
	k, b, r, ok := impl.TakeRlp(s)
	if !ok || k != kind || b != body || r != rest {
		t.Errorf("TakeRlp of %d bytes %.20q: %d, %.20q, %.20q, %v; want %d, %.20q, %.20q", len(s), s, k, b, r, ok, kind, body, rest)
	}
}

func wantUntaken(t *testing.T, why, s string) {
	t.Helper()
	if k, b, r, ok := impl.TakeRlp(s); ok || k != 0 || b != "" || r != "" {
		t.Errorf("TakeRlp, %s: %.20q: %d, %.20q, %.20q, %v", why, s, k, b, r, ok)
	}
}

func wantNoItems(t *testing.T, why, s string) {
	t.Helper()
	if items, ok := impl.RlpItems(s); ok || len(items) != 0 {
		t.Errorf("RlpItems, %s: %.20q: %.40q, %v", why, s, items, ok)
	}
}

func TestTextsComeBack(t *testing.T) {
	for _, c := range []struct{ head, text string }{
		{"\x80", ""},
		{"", "\x00"}, {"", "a"}, {"", "\x7f"},
		{"\x81", "\x80"}, {"\x81", "\xff"},
		{"\x82", "ab"}, {"\x82", "\x00\x00"},
		{"\xb6", letters(54)}, {"\xb7", letters(55)},
		{"\xb8\x38", letters(56)}, {"\xb8\x39", letters(57)},
		{"\xb8\xff", letters(255)}, {"\xb9\x01\x00", letters(256)},
		{"\xb9\xea\x5f", letters(impl.MaxRlp - 1)}, {"\xb9\xea\x60", letters(impl.MaxRlp)},
	} {
		if s := impl.RlpText(c.text); s != c.head+c.text {
			t.Errorf("RlpText of %d bytes %.10q: %.20q", len(c.text), c.text, s)
		}
		for _, behind := range behinds {
			wantTaken(t, c.head+c.text+behind, impl.RlText, c.text, behind)
		}
	}
	for _, n := range []int{impl.MaxRlp + 1, 1 << 16, 1 << 20} {
		if s := impl.RlpText(letters(n)); s != "" {
			t.Errorf("RlpText of %d bytes: %.20q", n, s)
		}
	}
	for n := range 600 {
		text := strings.Repeat("\x00\xc1\x7f", 200)[:n]
		wantTaken(t, impl.RlpText(text)+"\xb7", impl.RlText, text, "\xb7")
	}
}

func TestListsAreTaken(t *testing.T) {
	for _, c := range []struct{ head, body string }{
		{"\xc0", ""}, {"\xc1", "a"}, {"\xc1", "\x83"}, {"\xc2", "\x81a"},
		{"\xf7", letters(55)}, {"\xf8\x38", letters(56)},
		{"\xf8\xff", letters(255)}, {"\xf9\x01\x00", letters(256)},
		{"\xf9\xea\x60", letters(impl.MaxRlp)},
	} {
		for _, behind := range behinds {
			wantTaken(t, c.head+c.body+behind, impl.RlList, c.body, behind)
		}
	}
}

func TestNoItemIsTaken(t *testing.T) {
	for _, c := range []struct{ why, s string }{
		{"nothing", ""},
		{"too few", "\x81"}, {"too few", "\x83do"}, {"too few", "\xb7" + letters(54)},
		{"too few", "\xb8\x38" + letters(55)}, {"too few", "\xb9\xea\x60" + letters(impl.MaxRlp-1)},
		{"too few", "\xc1"}, {"too few", "\xc2a"}, {"too few", "\xf7" + letters(54)},
		{"too few", "\xf8\x38" + letters(55)},
		{"no length", "\xb8"}, {"no length", "\xb9\x01"}, {"no length", "\xba\x01\x00"},
		{"no length", "\xf8"}, {"no length", "\xf9\x01"}, {"no length", "\xfa\x01\x00"},
		{"a nought ahead", "\xb9\x00\x38" + letters(56)}, {"a nought ahead", "\xba\x00\x01\x00" + letters(256)},
		{"a nought ahead", "\xf9\x00\x38" + letters(56)}, {"a nought ahead", "\xfa\x00\x01\x00" + letters(256)},
		{"length 0", "\xb8\x00"}, {"length 1", "\xb8\x01\x80"}, {"length 55", "\xb8\x37" + letters(55)},
		{"length 0", "\xf8\x00"}, {"length 1", "\xf8\x01a"}, {"length 55", "\xf8\x37" + letters(55)},
		{"length in 4 bytes", "\xbb\x00\x00\x00\x38" + letters(56)}, {"length in 4 bytes", "\xbb\x01\x00\x00\x00" + letters(1<<24)},
		{"length in 8 bytes", "\xbf\x00\x00\x00\x00\x00\x00\x00\x38" + letters(56)},
		{"length in 8 bytes", "\xbf\xff\xff\xff\xff\xff\xff\xff\xff" + letters(56)},
		{"length in 4 bytes", "\xfb\x00\x00\x00\x38" + letters(56)},
		{"length in 8 bytes", "\xff\xff\xff\xff\xff\xff\xff\xff\xff" + letters(56)},
		{"MaxRlp and one", "\xb9\xea\x61" + letters(impl.MaxRlp+1)}, {"65536", "\xba\x01\x00\x00" + letters(1<<16)},
		{"MaxRlp and one", "\xf9\xea\x61" + letters(impl.MaxRlp+1)}, {"65536", "\xfa\x01\x00\x00" + letters(1<<16)},
		{"a byte with one ahead", "\x81\x00"}, {"a byte with one ahead", "\x81a"},
		{"a byte with one ahead", "\x81\x7f"}, {"a byte with one ahead", "\x81ab"},
	} {
		wantUntaken(t, c.why, c.s)
	}
}

func TestListsComeBack(t *testing.T) {
	for _, c := range []struct {
		head  string
		items []string
	}{
		{"\xc0", nil},
		{"\xc1", []string{"a"}},
		{"\xc1", []string{"\x80"}},
		{"\xc7", []string{"\xc0", "\xc1\xc0", "\xc3\xc0\xc1\xc0"}},
		{"\xca", []string{"\x83cat", "\x83dog", "\xc1a"}},
		{"\xf7", strings.Split(letters(55), "")},
		{"\xf8\x38", strings.Split(letters(56), "")},
		{"\xf8\x39", []string{"\xb7" + letters(55), "\x80"}},
		{"\xf8\xff", strings.Split(letters(255), "")},
		{"\xf9\x01\x00", strings.Split(letters(256), "")},
		{"\xf9\xea\x60", strings.Split(letters(impl.MaxRlp), "")},
		{"\xf9\xea\x60", []string{"\xb9\xea\x5d" + letters(impl.MaxRlp-3)}},
		{"\xc2", []string{"\xc1\x83"}}, // whether a list's bytes are items isn't asked
	} {
		want := c.head + strings.Join(c.items, "")
		if s := impl.RlpList(c.items); s != want {
			t.Errorf("RlpList of %d items %.40q: %.20q", len(c.items), c.items, s)
		}
		if items, ok := impl.RlpItems(want); !ok || !slices.Equal(items, c.items) {
			t.Errorf("RlpItems of %.20q: %d items, %v", want, len(items), ok)
		}
		for _, behind := range behinds[1:] {
			wantTaken(t, want+behind, impl.RlList, strings.Join(c.items, ""), behind)
			wantNoItems(t, "something behind", want+behind)
		}
	}
}

func TestNoListIsMade(t *testing.T) {
	for _, c := range []struct {
		why   string
		items []string
	}{
		{"an empty piece", []string{""}}, {"an empty piece behind", []string{"a", ""}},
		{"two items in one", []string{"ab"}}, {"something behind", []string{"\x83dogz"}},
		{"too few bytes", []string{"\x83do"}}, {"two halves of one", []string{"\x83do", "g"}},
		{"no shortest form", []string{"a", "\x81a"}}, {"no shortest form", []string{"\xb8\x37" + letters(55)}},
		{"MaxRlp and one", strings.Split(letters(impl.MaxRlp+1), "")},
		{"MaxRlp and one", []string{"\xb9\xea\x5d" + letters(impl.MaxRlp-3), "a"}},
		{"one item above MaxRlp", []string{"\xb9\xea\x60" + letters(impl.MaxRlp)}},
	} {
		if s := impl.RlpList(c.items); s != "" {
			t.Errorf("RlpList, %s: %.20q", c.why, s)
		}
	}
}

func TestNoItemsAreRead(t *testing.T) {
	for _, c := range []struct{ why, s string }{
		{"nothing", ""}, {"a text", "a"}, {"a text", "\x80"}, {"a text", "\x83dog"},
		{"too few", "\xc2a"}, {"a long form", "\xf8\x01a"},
		{"a piece that is cut", "\xc1\x83"}, {"a piece that is cut", "\xc5\x83dog\x81"},
		{"a piece that is cut though more stands behind", "\xc2\x83dog"},
		{"a piece in no shortest form", "\xc2\x81a"}, {"a piece in no shortest form", "\xc3a\x81a"},
		{"a list that is cut in a list", "\xc2a\xc1"},
		{"a length with noughts in a list", "\xf8\x3b\xb9\x00\x38" + letters(56)},
	} {
		wantNoItems(t, c.why, c.s)
	}
}

func TestListLeavesItsArgument(t *testing.T) {
	room := []string{"a", "\xc0", "spare", "spare"}
	kept := slices.Clone(room)
	impl.RlpList(room[:2])
	impl.RlpList(room[:3])
	if !slices.Equal(room, kept) {
		t.Errorf("written into: %q", room)
	}
	first, _ := impl.RlpItems("\xc2ab")
	first[0] = "x"
	if second, _ := impl.RlpItems("\xc2ab"); second[0] != "a" {
		t.Error("two answers share memory")
	}
}

// wantJustItsBytes: what is taken or read has no other bytes than those it was taken from.
func wantJustItsBytes(t *testing.T, s string) {
	t.Helper()
	kind, body, rest, ok := impl.TakeRlp(s)
	if !ok {
		wantUntaken(t, "refused", s)
		wantNoItems(t, "refused", s)
		return
	}
	if kind == impl.RlText && impl.RlpText(body)+rest != s {
		t.Errorf("%.20q is taken as the text %.20q", s, body)
	}
	if items, ok := impl.RlpItems(s); ok && (kind != impl.RlList || impl.RlpList(items) != s) {
		t.Errorf("%.20q is read as the list %.40q", s, items)
	}
}

func TestTakenHasJustItsBytes(t *testing.T) {
	for a := range 256 {
		wantJustItsBytes(t, string([]byte{byte(a)}))
		for b := range 256 {
			two := string([]byte{byte(a), byte(b)})
			wantJustItsBytes(t, two)
			wantJustItsBytes(t, two+letters(300))
			wantJustItsBytes(t, two+"\x38"+letters(300))
		}
	}
	source := rand.New(rand.NewSource(1))
	for range 100000 {
		s := make([]byte, source.Intn(12))
		for i := range s {
			s[i] = byte(source.Intn(256))
			if source.Intn(2) == 0 {
				s[i] = "\x00\x01\x37\x38a\x7f\x80\x81\xb7\xb8\xb9\xc0\xc1\xc2\xf7\xf8"[source.Intn(16)]
			}
		}
		wantJustItsBytes(t, string(s))
	}
}

func TestNibblesComeBack(t *testing.T) {
	longest := strings.Repeat("\x0f\x00\x07", impl.MaxRlp/3)
	for _, c := range []struct {
		nibbles string
		leaf    bool
		text    string
	}{
		{"", false, "\x00"}, {"", true, "\x20"},
		{"\x00", false, "\x10"}, {"\x0f", true, "\x3f"},
		{"\x00\x00", false, "\x00\x00"}, {"\x0f\x0e", true, "\x20\xfe"},
		{"\x01\x02\x03", false, "\x11\x23"}, {"\x00\x00\x00", true, "\x30\x00"},
		{longest, true, "\x20" + strings.Repeat("\xf0\x7f\x07", impl.MaxRlp/6)},
		{longest[:impl.MaxRlp-1], false, "\x1f" + strings.Repeat("\x07\xf0\x7f", impl.MaxRlp/6)[:impl.MaxRlp/2-1]},
	} {
		if s, ok := impl.HexPrefix(c.nibbles, c.leaf); !ok || s != c.text {
			t.Errorf("HexPrefix of %d nibbles %.20q, %v: %.20q, %v", len(c.nibbles), c.nibbles, c.leaf, s, ok)
		}
		if n, leaf, ok := impl.ReadHexPrefix(c.text); !ok || n != c.nibbles || leaf != c.leaf {
			t.Errorf("ReadHexPrefix of %.20q: %.20q, %v, %v", c.text, n, leaf, ok)
		}
	}
}

func TestNoNibbles(t *testing.T) {
	many := strings.Repeat("\x01", impl.MaxRlp+1)
	for _, s := range []string{"\x10", "\xff", "a", "\x00\x10", "\x10\x00", "\x0f\x0f\x10", many, many + many} {
		for _, leaf := range []bool{false, true} {
			if text, ok := impl.HexPrefix(s, leaf); ok || text != "" {
				t.Errorf("HexPrefix of %d bytes %.20q: %.20q, %v", len(s), s, text, ok)
			}
		}
	}
	most := strings.Repeat("\x11", impl.MaxRlp/2)
	for _, s := range []string{
		"", "\x01", "\x0f", "\x21", "\x2f\x11", "\x08\x11",
		"\x40", "\x50", "\x60", "\x80", "\xf0", "\x41\x11", "\xff\xff",
		"\x00\x00" + most, "\x20\x00" + most, "\x11\x11" + most, "\x31\x11" + most,
		"\x11" + most, "\x3f" + most, // one nibble more than HexPrefix takes
	} {
		if n, leaf, ok := impl.ReadHexPrefix(s); ok || n != "" || leaf {
			t.Errorf("ReadHexPrefix of %d bytes %.20q: %.20q, %v, %v", len(s), s, n, leaf, ok)
		}
	}
}

func TestReadNibblesHaveJustTheirBytes(t *testing.T) {
	for a := range 256 {
		for _, behind := range []string{"", "\x00", "\x7f", "\xab\xcd", strings.Repeat("\x99", impl.MaxRlp/2-1), strings.Repeat("\x99", impl.MaxRlp/2)} {
			s := string([]byte{byte(a)}) + behind
			n, leaf, ok := impl.ReadHexPrefix(s)
			if !ok {
				continue
			}
			if again, ok := impl.HexPrefix(n, leaf); !ok || again != s {
				t.Errorf("%.20q is read as %.20q, %v, whose text is %.20q, %v", s, n, leaf, again, ok)
			}
		}
	}
}

func TestNibblesOfKeys(t *testing.T) {
	for _, c := range [][2]string{{"", ""}, {"\x00", "\x00\x00"}, {"\xff", "\x0f\x0f"}, {"a", "\x06\x01"}, {"\x1f\x20\x80", "\x01\x0f\x02\x00\x08\x00"}} {
		if n := impl.Nibbles(c[0]); n != c[1] {
			t.Errorf("Nibbles of %q: %q", c[0], n)
		}
	}
	for a := range 256 {
		if n := impl.Nibbles(string([]byte{byte(a)})); n != string([]byte{byte(a / 16), byte(a % 16)}) {
			t.Errorf("Nibbles of %d: %q", a, n)
		}
	}
	if n := impl.Nibbles(strings.Repeat("\x5c", impl.MaxRlp+1)); n != strings.Repeat("\x05\x0c", impl.MaxRlp+1) {
		t.Errorf("Nibbles of a long key: %d bytes", len(n))
	}
}
