package tests

import (
	"math"
	"math/rand"
	"reflect"
	"strings"
	"testing"

	"loop.example/kilncrew/impl"
)

// entryOf writes any entry, valid or not, as the document says its form is; numbers that are too great wrap.
func entryOf(e impl.Entry) string {
	return string([]byte{byte(e.Kind), byte(e.Epoch >> 8), byte(e.Epoch), byte(e.Task)}) + e.Text
}

func begins(epoch int) string {
	return entryOf(impl.Entry{Kind: 1, Epoch: epoch})
}

func gives(epoch, task int, text string) string {
	return entryOf(impl.Entry{Kind: 2, Epoch: epoch, Task: task, Text: text})
}

// epochs are the first n epochs' beginnings.
func epochs(n int) []string {
	var out []string
	for i := range n {
		out = append(out, begins(i+1))
	}
	return out
}

func checkNoEntry(t *testing.T, what, s string) {
	t.Helper()
	if e, ok := impl.ReadEntry(s); ok || e != (impl.Entry{}) {
		t.Errorf("%s: %q is read as %+v, %v", what, s, e, ok)
	}
}

// checkEntry asks that an entry is written and read, or that neither is done.
func checkEntry(t *testing.T, e impl.Entry, valid bool) {
	t.Helper()
	s := impl.FormEntry(e)
	if !valid {
		if s != "" {
			t.Errorf("%+v is written as %q", e, s)
		}
		// Where no number wraps, the same bytes are not read.
		if e.Kind>>8 == 0 && e.Epoch>>16 == 0 && e.Task>>8 == 0 {
			checkNoEntry(t, "not valid", entryOf(e))
		}
		return
	}
	if want := entryOf(e); s != want {
		t.Errorf("%+v is written as %q, not %q", e, s, want)
	}
	if got, ok := impl.ReadEntry(s); !ok || got != e {
		t.Errorf("%+v is read back as %+v, %v", e, got, ok)
	}
}

func TestEntriesAreTheDocuments(t *testing.T) {
	got := []int{impl.EntEpoch, impl.EntResult, impl.MaxLog, impl.MaxBytes}
	if !reflect.DeepEqual(got, []int{1, 2, 310, 500}) {
		t.Errorf("%v", got)
	}
	if s := impl.FormEntry(impl.Entry{Kind: 1, Epoch: 300}); s != "\x01\x01\x2c\x00" {
		t.Errorf("%q", s)
	}
	if s := impl.FormEntry(impl.Entry{Kind: 2, Epoch: 7, Task: 39, Text: "\x00\xff\n 45é"}); s != "\x02\x00\x07\x27\x00\xff\n 45é" {
		t.Errorf("%q", s)
	}
}

func TestEntriesComeBack(t *testing.T) {
	for epoch := 1; epoch <= 300; epoch++ {
		checkEntry(t, impl.Entry{Kind: impl.EntEpoch, Epoch: epoch}, true)
		for task := range 40 {
			for _, text := range texts(3) {
				checkEntry(t, impl.Entry{Kind: impl.EntResult, Epoch: epoch, Task: task, Text: text}, true)
			}
		}
	}
}

func TestFieldsOfEntries(t *testing.T) {
	numbers := []int{math.MinInt, -256, -1, 0, 1, 2, 3, 38, 39, 40, 41, 255, 256, 257, 258, 299, 300, 301, 1001, 65535, 65536, 65537, 1<<32 + 1, math.MaxInt}
	for _, n := range numbers {
		checkEntry(t, impl.Entry{Kind: n, Epoch: 1}, n == 1)
		checkEntry(t, impl.Entry{Kind: n, Epoch: 1, Text: "eight888"}, n == 2)
		checkEntry(t, impl.Entry{Kind: 1, Epoch: n}, 1 <= n && n <= 300)
		checkEntry(t, impl.Entry{Kind: 2, Epoch: n, Task: 5, Text: "eight888"}, 1 <= n && n <= 300)
		checkEntry(t, impl.Entry{Kind: 1, Epoch: 5, Task: n}, n == 0)
		checkEntry(t, impl.Entry{Kind: 2, Epoch: 5, Task: n, Text: "eight888"}, 0 <= n && n <= 39)
	}
	for _, n := range []int{0, 1, 7, 8, 9, 16, 496, 497, 5000} {
		text := strings.Repeat("x", n)
		checkEntry(t, impl.Entry{Kind: 1, Epoch: 5, Text: text}, n == 0)
		checkEntry(t, impl.Entry{Kind: 2, Epoch: 5, Text: text}, n == 8)
		checkEntry(t, impl.Entry{Kind: 2, Epoch: 5, Task: 39, Text: text}, n == 8)
	}
	checkEntry(t, impl.Entry{}, false)
}

func TestTextsThatAreNoEntry(t *testing.T) {
	for _, s := range []string{begins(1), begins(300), gives(1, 0, "eight888"), gives(300, 39, texts(1)[0])} {
		for n := range len(s) {
			checkNoEntry(t, "cut short", s[:n])
			checkNoEntry(t, "cut in front", s[n+1:])
		}
		for _, more := range []string{"\x00", "x", "eight888", s, strings.Repeat("y", 100000)} {
			checkNoEntry(t, "longer", s+more)
		}
	}
	for _, s := range []string{"", "\x00", "\x00\x00\x00\x00", "\x00\x00\x01\x00", "\x02\x01\x00\x00", "eight888", "\x03\x00\x01\x00", "\x03\x00\x01\x00eight888", "\x01\x00\x01\x01", "\x01\x00\x01\x00eight888", "\x01\x00\x01\x00\x00", "\x02\x00\x01\x00", "\x02\x00\x01\x28eight888", "\x02\x01\x2d\x00eight888", "\x01\x01\x2d\x00", "\x01\x00\x00\x00", "\x02\x00\x00\x00eight888"} {
		checkNoEntry(t, "no entry", s)
	}
}

// TestReadIsForm goes through all that four bytes of a head can be, of each kind in turn, with texts of some sizes: what is read is just what is written so.
func TestReadIsForm(t *testing.T) {
	for kind := range 256 {
		for epoch := range 320 {
			for _, task := range []int{0, 1, 39, 40, 255} {
				for _, size := range []int{0, 7, 8, 9} {
					e := impl.Entry{Kind: kind, Epoch: epoch, Task: task, Text: "123456789"[:size]}
					valid := 1 <= epoch && epoch <= 300 && (kind == 1 && task == 0 && size == 0 || kind == 2 && task < 40 && size == 8)
					got, ok := impl.ReadEntry(entryOf(e))
					if ok != valid || valid && got != e || !valid && got != (impl.Entry{}) || (impl.FormEntry(e) != "") != valid {
						t.Fatalf("%+v: %+v, %v", e, got, ok)
					}
				}
			}
		}
	}
	r := rand.New(rand.NewSource(7))
	for range 100000 {
		b := make([]byte, r.Intn(15))
		for i := range b {
			b[i] = byte(r.Intn(4))
		}
		if e, ok := impl.ReadEntry(string(b)); ok && impl.FormEntry(e) != string(b) || !ok && e != (impl.Entry{}) {
			t.Fatalf("%q is read as %+v, %v", b, e, ok)
		}
	}
}

func cloneStory(s impl.Story) impl.Story {
	s.Results = append([]string(nil), s.Results...)
	return s
}

func checkStory(t *testing.T, what string, got, want impl.Story) {
	t.Helper()
	if !reflect.DeepEqual(cloneStory(got), cloneStory(want)) {
		t.Errorf("%s:\n got %+v\nwant %+v", what, got, want)
	}
}

// results are the empty texts of n tasks but for those that are named.
func results(n int, of map[int]string) []string {
	out := make([]string, n)
	for task, text := range of {
		out[task] = text
	}
	return out
}

func TestReplay(t *testing.T) {
	p := crewPlan()
	x := texts(10)
	for _, c := range []struct {
		what    string
		entries []string
		epoch   int
		of      map[int]string
	}{
		{"no entries", nil, 0, nil},
		{"an empty list", []string{}, 0, nil},
		{"one epoch", epochs(1), 1, nil},
		{"two epochs", epochs(2), 2, nil},
		{"all epochs", epochs(300), 300, nil},
		{"a result", append(epochs(1), gives(1, 0, x[0])), 1, map[int]string{0: x[0]}},
		{"of the last task", append(epochs(1), gives(1, 9, x[0])), 1, map[int]string{9: x[0]}},
		{"with a Dep", append(epochs(1), gives(1, 0, x[0]), gives(1, 1, x[1])), 1, map[int]string{0: x[0], 1: x[1]}},
		{"with a Dep of an epoch before", append(epochs(1), gives(1, 0, x[0]), begins(2), begins(3), gives(3, 1, x[1])), 3, map[int]string{0: x[0], 1: x[1]}},
		{"in any order", append(epochs(1), gives(1, 9, x[9]), gives(1, 3, x[3]), gives(1, 0, x[0])), 1, map[int]string{9: x[9], 3: x[3], 0: x[0]}},
		{"two of one text", append(epochs(1), gives(1, 0, x[0]), gives(1, 3, x[0])), 1, map[int]string{0: x[0], 3: x[0]}},
		{"an epoch behind", append(epochs(1), gives(1, 0, x[0]), begins(2)), 2, map[int]string{0: x[0]}},
		{"a text of zeros", append(epochs(1), gives(1, 0, "\x00\x00\x00\x00\x00\x00\x00\x00")), 1, map[int]string{0: "\x00\x00\x00\x00\x00\x00\x00\x00"}},
	} {
		checkStory(t, c.what, impl.Replay(p, c.entries), impl.Story{Epoch: c.epoch, Results: results(10, c.of)})
	}
}

// wrongEntries are lists of entries with code 2 for crewPlan.
func wrongEntries() map[string][]string {
	x := texts(10)
	two := append(epochs(1), gives(1, 0, x[0]), begins(2))
	behind := func(s ...string) []string { return append(append([]string(nil), two...), s...) }
	return map[string][]string{
		"the empty text":              {""},
		"no entry":                    {"x"},
		"no entry behind some":        behind("x"),
		"no entry between":            {begins(1), "", begins(2)},
		"an entry cut short":          behind(gives(2, 1, x[1])[:11]),
		"an entry that is longer":     behind(gives(2, 1, x[1]) + "x"),
		"an epoch with a task":        behind("\x01\x00\x03\x01"),
		"no first epoch":              {gives(1, 0, x[0])},
		"an epoch 0":                  {"\x01\x00\x00\x00"},
		"the second epoch first":      {begins(2)},
		"an epoch twice":              behind(begins(2)),
		"an epoch left out":           behind(begins(4)),
		"an epoch gone back":          behind(begins(1)),
		"an epoch above the last":     append(epochs(300), "\x01\x01\x2d\x00"),
		"the epoch before":            behind(gives(1, 1, x[1])),
		"the epoch behind":            behind(gives(3, 1, x[1])),
		"a task that is not there":    behind(gives(2, 10, x[1])),
		"the last that may be":        behind(gives(2, 39, x[1])),
		"a task above all":            behind(gives(2, 40, x[1])),
		"a result twice":              behind(gives(2, 0, x[0])),
		"another result":              behind(gives(2, 0, x[1])),
		"a result twice in an epoch":  behind(gives(2, 3, x[3]), gives(2, 3, x[3])),
		"no Dep":                      behind(gives(2, 2, x[2])),
		"not all Deps":                behind(gives(2, 1, x[1]), gives(2, 8, x[8])),
		"all Deps but the last":       behind(gives(2, 1, x[1]), gives(2, 2, x[2]), gives(2, 3, x[3]), gives(2, 4, x[4]), gives(2, 5, x[5]), gives(2, 6, x[6]), gives(2, 8, x[8])),
		"a Dep behind it":             {begins(1), gives(1, 1, x[1]), gives(1, 0, x[0])},
		"310 entries, the last wrong": append(epochs(300), append(fullLog(10)[300:309], "")...),
	}
}

func TestReplayOfWrongEntries(t *testing.T) {
	for what, entries := range wrongEntries() {
		checkStory(t, what, impl.Replay(crewPlan(), entries), impl.Story{Code: 2})
	}
}

// fullLog has MaxLog entries for a plan of 40 tasks that stand on nothing, and done of them have results.
func fullLog(done int) []string {
	out := epochs(impl.MaxLog - done)
	for task := range done {
		out = append(out, gives(impl.MaxLog-done, task, texts(40)[task]))
	}
	return out
}

func TestReplayOfManyEntries(t *testing.T) {
	p := plainPlan(40)
	for _, done := range []int{10, 11, 39, 40} {
		full := fullLog(done)
		of := map[int]string{}
		for task := range done {
			of[task] = texts(40)[task]
		}
		want := impl.Story{Epoch: 310 - done, Results: results(40, of)}
		checkStory(t, "310 entries", impl.Replay(p, full), want)
		if done < 40 {
			more := append(append([]string(nil), full...), gives(310-done, done, texts(1)[0]))
			checkStory(t, "311 entries", impl.Replay(p, more), impl.Story{Code: 1})
			checkStory(t, "310 of 311 entries", impl.Replay(p, more[:310]), want)
		}
		checkStory(t, "311 entries, one not read", impl.Replay(p, append(append([]string(nil), full...), "")), impl.Story{Code: 1})
		checkStory(t, "311 entries, the first not read", impl.Replay(p, append([]string{""}, full...)), impl.Story{Code: 1})
	}
	checkStory(t, "many entries", impl.Replay(p, make([]string, 100000)), impl.Story{Code: 1})
	checkStory(t, "310 entries that are not read", impl.Replay(p, make([]string, 310)), impl.Story{Code: 2})
	checkStory(t, "311 entries that are not read", impl.Replay(p, make([]string, 311)), impl.Story{Code: 1})
}

func TestReplayOfWrongPlans(t *testing.T) {
	for _, plans := range wrongPlans() {
		for _, p := range plans {
			for _, entries := range [][]string{nil, epochs(1), {begins(1), gives(1, 0, "eight888")}, {"x"}, make([]string, 311)} {
				checkStory(t, "a wrong plan", impl.Replay(p, entries), impl.Story{Code: 1})
			}
		}
	}
}

// replayWanted is what valid plans' entries tell, as the document says it.
func replayWanted(p impl.Plan, entries []string) impl.Story {
	if len(entries) > 310 {
		return impl.Story{Code: 1}
	}
	wrong := impl.Story{Code: 2}
	epoch, of := 0, map[int]string{}
	for _, s := range entries {
		if len(s) < 4 {
			return wrong
		}
		at, task := int(s[1])<<8|int(s[2]), int(s[3])
		switch {
		case s[0] == 1 && len(s) == 4 && task == 0 && at == epoch+1 && at <= 300:
			epoch++
		case s[0] == 2 && len(s) == 12 && at == epoch && epoch > 0 && task < len(p.Tasks) && of[task] == "":
			for _, d := range p.Tasks[task].Deps {
				if of[d] == "" {
					return wrong
				}
			}
			of[task] = s[4:]
		default:
			return wrong
		}
	}
	return impl.Story{Epoch: epoch, Results: results(len(p.Tasks), of)}
}

func TestReplayOfAnyEntries(t *testing.T) {
	r := rand.New(rand.NewSource(8))
	right := 0
	for range 30000 {
		p := randomPlan(r)
		var entries []string
		epoch := 0
		for range r.Intn(12) {
			if epoch == 0 || r.Intn(4) == 0 {
				epoch++
				entries = append(entries, begins(epoch))
				continue
			}
			task := r.Intn(min(len(p.Tasks)+1, 6))
			entries = append(entries, gives(epoch, task, texts(40)[task]))
		}
		if len(entries) > 0 && r.Intn(4) == 0 {
			i := r.Intn(len(entries))
			b := []byte(entries[i])
			b[r.Intn(len(b))] ^= 1 << r.Intn(8)
			entries[i] = string(b)
		}
		want := replayWanted(p, entries)
		if want.Code == 0 && len(entries) > 3 {
			right++
		}
		if got := impl.Replay(p, entries); !reflect.DeepEqual(cloneStory(got), cloneStory(want)) {
			t.Fatalf("%q:\n got %+v\nwant %+v", entries, got, want)
		}
	}
	if right < 1000 {
		t.Errorf("only %d lists told something", right)
	}
}

func TestReplayIsNewMemory(t *testing.T) {
	p := crewPlan()
	room := append(epochs(1), gives(1, 0, "eight888"), "behind")
	first := impl.Replay(p, room[:2])
	for i := range first.Results[:cap(first.Results)] {
		first.Results[:cap(first.Results)][i] = "spoiled!"
	}
	if !reflect.DeepEqual(room, append(epochs(1), gives(1, 0, "eight888"), "behind")) || !reflect.DeepEqual(p, crewPlan()) {
		t.Errorf("an argument was changed: %q", room)
	}
	second := impl.Replay(p, room[:2])
	room[1] = "spoiled!"
	checkStory(t, "behind a first answer", second, impl.Story{Epoch: 1, Results: results(10, map[int]string{0: "eight888"})})
}
