package tests

import (
	"encoding/binary"
	"math"
	"math/rand"
	"reflect"
	"strings"
	"testing"

	"loop.example/kilncrew/impl"
)

// bodyOf writes any message, valid or not, as the document says a body is; numbers that are too great wrap.
func bodyOf(m impl.Message) string {
	b := []byte{byte(m.Kind), byte(m.From), byte(m.To)}
	b = binary.BigEndian.AppendUint16(b, uint16(m.Epoch))
	b = binary.BigEndian.AppendUint32(b, uint32(m.Lease))
	b = append(b, byte(m.Task), byte(len(m.Inputs)))
	return string(b) + m.Text + strings.Join(m.Inputs, "")
}

func sealed(body, key string) string {
	return sumOf(key+"\x00"+body) + body
}

// texts gives n different texts of eight bytes, with bytes of every sort.
func texts(n int) []string {
	var out []string
	for i := range n {
		out = append(out, string([]byte{byte(i), 0, 255, 128, 'x', '\n', 0xc3, byte(i)}))
	}
	return out
}

// messages are valid ones of each kind, each used field at its limits and between.
func messages() []impl.Message {
	var out []impl.Message
	for _, worker := range []int{1, 5, 8} {
		for _, epoch := range []int{1, 255, 256, 300} {
			out = append(out, impl.Message{Kind: impl.MsgHere, From: worker, Epoch: epoch})
			for _, lease := range []int{1, 255, 65536, 16909060, 299999999, 300000000} {
				out = append(out,
					impl.Message{Kind: impl.MsgBeat, From: worker, Epoch: epoch, Lease: lease},
					impl.Message{Kind: impl.MsgThanks, To: worker, Epoch: epoch, Lease: lease})
				for _, task := range []int{0, 7, 39} {
					out = append(out, impl.Message{Kind: impl.MsgResult, From: worker, Epoch: epoch, Lease: lease, Task: task, Text: texts(1)[0]})
					for n := range 9 {
						out = append(out, impl.Message{Kind: impl.MsgOffer, To: worker, Epoch: epoch, Lease: lease, Task: task, Inputs: texts(n)})
					}
				}
			}
		}
	}
	return out
}

// samples are one valid message of each kind, by kind.
func samples() map[int]impl.Message {
	return map[int]impl.Message{
		impl.MsgOffer:  {Kind: 1, To: 3, Epoch: 258, Lease: 16909060, Task: 7, Inputs: texts(2)},
		impl.MsgBeat:   {Kind: 2, From: 8, Epoch: 1, Lease: 1},
		impl.MsgResult: {Kind: 3, From: 1, Epoch: 300, Lease: 300000000, Task: 39, Text: "result!!"},
		impl.MsgThanks: {Kind: 4, To: 1, Epoch: 7, Lease: 5},
		impl.MsgHere:   {Kind: 5, From: 2, Epoch: 3},
	}
}

func cloneMessage(m impl.Message) impl.Message {
	m.Inputs = append([]string(nil), m.Inputs...)
	return m
}

func keys() []string {
	out := []string{"key", "\x00", "\xff\x00\xff", strings.Repeat("\x00", 30), "kéy\n"}
	for n := range 31 {
		out = append(out, strings.Repeat("k", n))
	}
	return out
}

func checkUnread(t *testing.T, what, s, key string) {
	t.Helper()
	if m, ok := impl.ReadMessage(s, key); ok || !reflect.DeepEqual(m, impl.Message{}) {
		t.Errorf("%s: %q is read as %+v, %v", what, s, m, ok)
	}
}

func checkRead(t *testing.T, m impl.Message, key string) {
	t.Helper()
	s := impl.FormMessage(m, key)
	if want := sealed(bodyOf(m), key); s != want {
		t.Fatalf("%+v under %q: %q, want %q", m, key, s, want)
	}
	got, ok := impl.ReadMessage(s, key)
	if !ok || !reflect.DeepEqual(cloneMessage(got), cloneMessage(m)) {
		t.Fatalf("%+v under %q is read back as %+v, %v", m, key, got, ok)
	}
}

func TestKindsAreTheDocuments(t *testing.T) {
	got := []int{impl.MsgOffer, impl.MsgBeat, impl.MsgResult, impl.MsgThanks, impl.MsgHere, impl.MaxWorkers, impl.MaxEpoch, impl.MaxLease}
	if !reflect.DeepEqual(got, []int{1, 2, 3, 4, 5, 8, 300, 1000000}) {
		t.Errorf("%v", got)
	}
}

func TestMessagesComeBack(t *testing.T) {
	for _, m := range messages() {
		checkRead(t, m, "key")
	}
	for _, m := range samples() {
		for _, key := range keys() {
			checkRead(t, m, key)
		}
	}
}

func TestEmptyInputsAreNone(t *testing.T) {
	for _, m := range samples() {
		if m.Kind == impl.MsgOffer {
			m.Inputs = nil
		}
		with := m
		with.Inputs = []string{}
		if s := impl.FormMessage(with, "k"); s == "" || s != impl.FormMessage(m, "k") {
			t.Errorf("kind %d: an empty list is not the nil list", m.Kind)
		}
	}
}

// TestFieldsOfKinds gives each number of each kind values at, within and beyond its limits; users are the kinds that use it.
func TestFieldsOfKinds(t *testing.T) {
	offer, beat, result, thanks, here := impl.MsgOffer, impl.MsgBeat, impl.MsgResult, impl.MsgThanks, impl.MsgHere
	numbers := []int{math.MinInt, -256, -1, 0, 1, 2, 8, 9, 39, 40, 255, 256, 257, 264, 300, 301, 65535, 65536, 65537, 300000000, 300000001, math.MaxUint32, 1<<32 + 1, 1<<40 + 5, math.MaxInt}
	for _, f := range []struct {
		name      string
		set       func(m *impl.Message, n int)
		users     []int
		low, high int
	}{
		{"From", func(m *impl.Message, n int) { m.From = n }, []int{beat, result, here}, 1, 8},
		{"To", func(m *impl.Message, n int) { m.To = n }, []int{offer, thanks}, 1, 8},
		{"Epoch", func(m *impl.Message, n int) { m.Epoch = n }, []int{offer, beat, result, thanks, here}, 1, 300},
		{"Lease", func(m *impl.Message, n int) { m.Lease = n }, []int{offer, beat, result, thanks}, 1, 300000000},
		{"Task", func(m *impl.Message, n int) { m.Task = n }, []int{offer, result}, 0, 39},
	} {
		for kind, m := range samples() {
			used := false
			for _, u := range f.users {
				used = used || u == kind
			}
			for _, n := range numbers {
				m := cloneMessage(m)
				f.set(&m, n)
				checkTaken(t, f.name, m, used && f.low <= n && n <= f.high || !used && n == 0)
			}
		}
	}
}

// checkTaken asks that a message is written and read, or that neither is done.
func checkTaken(t *testing.T, what string, m impl.Message, want bool) {
	t.Helper()
	if want {
		checkRead(t, m, "key")
		return
	}
	if s := impl.FormMessage(m, "key"); s != "" {
		t.Errorf("%s: %+v is written as %q", what, m, s)
	}
	// Where no number wraps, the same body under a right seal is not read.
	if fitsBody(m) {
		checkUnread(t, what, sealed(bodyOf(m), "key"), "key")
	}
}

func fitsBody(m impl.Message) bool {
	in := func(n, high int) bool { return 0 <= n && n <= high }
	return in(m.Kind, 255) && in(m.From, 255) && in(m.To, 255) && in(m.Epoch, 65535) && in(m.Lease, math.MaxUint32) && in(m.Task, 255) && len(m.Inputs) <= 255
}

func TestKinds(t *testing.T) {
	for _, m := range samples() {
		for _, kind := range []int{math.MinInt, -1, 0, 6, 7, 255, 256, 257, 260, math.MaxInt} {
			m.Kind = kind
			checkTaken(t, "Kind", m, false)
		}
	}
	checkTaken(t, "nothing", impl.Message{}, false)
}

func TestBothWays(t *testing.T) {
	for _, m := range samples() {
		m.From, m.To = m.To, m.From
		checkTaken(t, "turned around", m, false)
		m.From, m.To = 1, 2
		checkTaken(t, "worker to worker", m, false)
		m.From, m.To = 0, 0
		checkTaken(t, "coordinator to itself", m, false)
	}
}

func TestTexts(t *testing.T) {
	for kind, m := range samples() {
		for _, n := range []int{0, 1, 7, 8, 9, 16, 64, 300} {
			m.Text = strings.Repeat("r", n)
			checkTaken(t, "Text", m, kind == impl.MsgResult && n == 8 || kind != impl.MsgResult && n == 0)
		}
	}
}

func TestInputs(t *testing.T) {
	for kind, m := range samples() {
		for _, n := range []int{0, 1, 7, 8, 9, 10, 255, 256, 257} {
			m.Inputs = texts(n)
			checkTaken(t, "Inputs", m, kind == impl.MsgOffer && n <= 8 || kind != impl.MsgOffer && n == 0)
		}
		for _, inputs := range [][]string{{""}, {"seven77"}, {"nine99999"}, {"eight888", ""}, {"seven77", "nine99999"}, {"nine99999", "seven77"}} {
			m.Inputs = inputs
			if s := impl.FormMessage(m, "key"); s != "" {
				t.Errorf("kind %d with inputs %q is written as %q", kind, inputs, s)
			}
		}
	}
}

func TestKeys(t *testing.T) {
	for _, m := range samples() {
		for _, n := range []int{31, 32, 1000} {
			key := strings.Repeat("k", n)
			if s := impl.FormMessage(m, key); s != "" {
				t.Errorf("a key of %d bytes: %q", n, s)
			}
			checkUnread(t, "a long key", sealed(bodyOf(m), key), key)
		}
		all := keys()
		for i, a := range all {
			for _, b := range all[i+1:] {
				checkUnread(t, "another key", impl.FormMessage(m, a), b)
				checkUnread(t, "another key", impl.FormMessage(m, b), a)
			}
		}
	}
}

func TestSealHasTheZeroByte(t *testing.T) {
	for _, m := range samples() {
		body := bodyOf(m)
		checkUnread(t, "no zero byte", sumOf("key"+body)+body, "key")
		checkUnread(t, "body first", sumOf(body+"\x00key")+body, "key")
		checkUnread(t, "no key", sumOf(body)+body, "")
		checkUnread(t, "no key, no zero byte", sumOf(body)+body, "key")
		low := []byte(sumOf("key\x00" + body))
		for i := range 4 {
			low[i], low[7-i] = low[7-i], low[i]
		}
		checkUnread(t, "lowest byte first", string(low)+body, "key")
	}
}

func TestCutAndLonger(t *testing.T) {
	for _, m := range samples() {
		s := impl.FormMessage(m, "key")
		for n := range len(s) {
			checkUnread(t, "cut short", s[:n], "key")
			checkUnread(t, "cut in front", s[n+1:], "key")
		}
		for _, more := range []string{"\x00", "x", "eight888", s} {
			checkUnread(t, "longer", s+more, "key")
			checkUnread(t, "longer in front", more+s, "key")
		}
	}
	for _, s := range []string{"", "\x00", "short", sumOf("key\x00"), strings.Repeat("\x00", 19), strings.Repeat("x", 100000)} {
		checkUnread(t, "no message", s, "key")
	}
}

func TestBentInOneByte(t *testing.T) {
	for _, m := range samples() {
		s := impl.FormMessage(m, "key")
		for i := range len(s) {
			for mask := 1; mask < 256; mask++ {
				b := []byte(s)
				b[i] ^= byte(mask)
				checkUnread(t, "bent", string(b), "key")
			}
		}
	}
}

// TestSealedBodies bends the body and seals it anew: what is read is then just what would be written so.
func TestSealedBodies(t *testing.T) {
	for _, m := range samples() {
		body := bodyOf(m)
		for i := range len(body) {
			for b := range 256 {
				checkReadIsForm(t, body[:i]+string([]byte{byte(b)})+body[i+1:], "key")
			}
		}
		for n := range len(body) {
			checkUnread(t, "a body cut short", sealed(body[:n], "key"), "key")
		}
		for n := 1; n < 80; n++ {
			checkUnread(t, "a body longer", sealed(body+strings.Repeat("\x00", n), "key"), "key")
		}
	}
}

func checkReadIsForm(t *testing.T, body, key string) {
	t.Helper()
	s := sealed(body, key)
	m, ok := impl.ReadMessage(s, key)
	if !ok {
		if !reflect.DeepEqual(m, impl.Message{}) {
			t.Errorf("%q is not read but gives %+v", s, m)
		}
		return
	}
	if impl.FormMessage(m, key) != s {
		t.Errorf("%q is read as %+v, whose form it is not", s, m)
	}
}

func TestNumberOfInputs(t *testing.T) {
	head := bodyOf(impl.Message{Kind: impl.MsgOffer, To: 1, Epoch: 1, Lease: 1})[:10]
	for count := range 256 {
		for n := range 12 {
			s := sealed(head+string([]byte{byte(count)})+strings.Join(texts(n), ""), "key")
			m, ok := impl.ReadMessage(s, "key")
			if want := count == n && n <= 8; ok != want || len(m.Inputs) != 0 && !want {
				t.Errorf("%d inputs that say they are %d: %v", n, count, ok)
			}
		}
	}
}

func TestRandomSealedBodies(t *testing.T) {
	r := rand.New(rand.NewSource(4))
	all := messages()
	for range 20000 {
		body := []byte(bodyOf(all[r.Intn(len(all))]))
		for range 1 + r.Intn(3) {
			switch at := r.Intn(len(body)); r.Intn(3) {
			case 0:
				body[at] = byte(r.Intn(12))
			case 1:
				body = append(body, byte(r.Intn(256)))
			case 2:
				body = body[:at+1]
			}
		}
		checkReadIsForm(t, string(body), "key")
	}
}

func TestMessagesAreNewMemory(t *testing.T) {
	room := append(texts(2), "behind")
	m := samples()[impl.MsgOffer]
	m.Inputs = room[:2]
	s := impl.FormMessage(m, "key")
	if !reflect.DeepEqual(room, append(texts(2), "behind")) {
		t.Errorf("the inputs were changed: %q", room)
	}
	first, _ := impl.ReadMessage(s, "key")
	for i := range first.Inputs[:cap(first.Inputs)] {
		first.Inputs[:cap(first.Inputs)][i] = "spoiled!"
	}
	second, ok := impl.ReadMessage(s, "key")
	if !ok || !reflect.DeepEqual(second.Inputs, texts(2)) {
		t.Errorf("an answer is not new memory: %q", second.Inputs)
	}
}
