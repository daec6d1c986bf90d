package impl

import "strings"

const (
	MaxRlp    = 60000
	MaxNibble = 15
	RlText    = 1
	RlList    = 2
)

const (
	textHead      = 128
	listHead      = 192
	maxShort      = 55 // what a head holds by itself, without bytes of length behind it
	maxLengthSize = 3
	oddFlag       = 1
	leafFlag      = 2
	maxFlag       = oddFlag + leafFlag
)

func RlpText(s string) string {
	if len(s) > MaxRlp {
		return ""
	}
	if len(s) == 1 && s[0] < textHead {
		return s
	}
	return headed(textHead, s)
}

func RlpList(items []string) string {
	total := 0
	for _, item := range items {
		total += len(item)
		if total > MaxRlp {
			return ""
		}
	}
	for _, item := range items {
		if !isItem(item) {
			return ""
		}
	}
	return headed(listHead, strings.Join(items, ""))
}

func TakeRlp(s string) (int64, string, string, bool) {
	var kind int64
	var body string
	reader := itemReader{rest: s}
	if !readsOn(func() { kind, body = reader.item() }) {
		return 0, "", "", false
	}
	return kind, body, reader.rest, true
}

func RlpItems(s string) ([]string, bool) {
	var items []string
	if !readsOn(func() { items = listItems(s) }) {
		return nil, false
	}
	return items, true
}

func HexPrefix(nibbles string, leaf bool) (string, bool) {
	if len(nibbles) > MaxRlp || !areNibbles(nibbles) {
		return "", false
	}
	flag := byte(0)
	if leaf {
		flag = leafFlag
	}
	if len(nibbles)%2 == 1 {
		return packed(string([]byte{flag + oddFlag}) + nibbles), true
	}
	return packed(string([]byte{flag, 0}) + nibbles), true
}

func ReadHexPrefix(s string) (string, bool, bool) {
	if s == "" || len(s) > MaxRlp/2+1 {
		return "", false, false
	}
	all := Nibbles(s)
	flag, path := all[0], all[1:]
	if flag > maxFlag {
		return "", false, false
	}
	if flag&oddFlag == 0 {
		if path[0] != 0 {
			return "", false, false
		}
		path = path[1:]
	}
	// The longest text has room for one nibble more than HexPrefix takes.
	if len(path) > MaxRlp {
		return "", false, false
	}
	return path, flag&leafFlag != 0, true
}

func Nibbles(key string) string {
	out := make([]byte, 0, 2*len(key))
	for i := range len(key) {
		out = append(out, key[i]>>4, key[i]&MaxNibble)
	}
	return string(out)
}

// itemReader takes items off the front of a text. It gives up with a panic,
// so that no step on the way has to hand a refusal on; readsOn catches it.
type itemReader struct {
	rest string
}

func readsOn(read func()) (ok bool) {
	defer func() {
		if recover() != nil {
			ok = false
		}
	}()
	read()
	return true
}

func (r *itemReader) item() (int64, string) {
	head := int(r.take(1)[0])
	if head < textHead {
		return RlText, string([]byte{byte(head)})
	}
	if head >= listHead {
		return RlList, r.body(head - listHead)
	}
	body := r.body(head - textHead)
	if len(body) == 1 && body[0] < textHead {
		panic("a byte that stands for itself has a head")
	}
	return RlText, body
}

func (r *itemReader) body(size int) string {
	if size <= maxShort {
		return r.take(size)
	}
	n := r.length(size - maxShort)
	if n <= maxShort {
		panic("a short length in the long form")
	}
	if n > MaxRlp {
		panic("too many bytes")
	}
	return r.take(n)
}

func (r *itemReader) length(size int) int {
	if size > maxLengthSize {
		panic("a length in too many bytes")
	}
	digits := r.take(size)
	if digits[0] == 0 {
		panic("a length in more bytes than it needs")
	}
	n := 0
	for i := range len(digits) {
		n = n<<8 | int(digits[i])
	}
	return n
}

func (r *itemReader) take(n int) string {
	if n > len(r.rest) {
		panic("too few bytes")
	}
	taken := r.rest[:n]
	r.rest = r.rest[n:]
	return taken
}

// listItems gives up with a panic, as its reader does.
func listItems(s string) []string {
	whole := itemReader{rest: s}
	kind, body := whole.item()
	if kind != RlList || whole.rest != "" {
		panic("not just a list")
	}
	var items []string
	inner := itemReader{rest: body}
	for inner.rest != "" {
		ahead := inner.rest
		inner.item()
		items = append(items, ahead[:len(ahead)-len(inner.rest)])
	}
	return items
}

func isItem(s string) bool {
	_, _, rest, ok := TakeRlp(s)
	return ok && rest == ""
}

func headed(head int, body string) string {
	n := len(body)
	if n <= maxShort {
		return string([]byte{byte(head + n)}) + body
	}
	length := numberText(int64(n))
	return string([]byte{byte(head + maxShort + len(length))}) + length + body
}

// numberText has the bytes of a number that is not below 0, the highest
// first, as few as hold it.
func numberText(n int64) string {
	text := ""
	for n > 0 {
		text = string([]byte{byte(n & 255)}) + text
		n >>= 8
	}
	return text
}

func areNibbles(s string) bool {
	for i := range len(s) {
		if s[i] > MaxNibble {
			return false
		}
	}
	return true
}

// packed wants an even number of nibbles.
func packed(nibbles string) string {
	out := make([]byte, 0, len(nibbles)/2)
	for i := 0; i < len(nibbles); i += 2 {
		out = append(out, nibbles[i]<<4|nibbles[i+1])
	}
	return string(out)
}
