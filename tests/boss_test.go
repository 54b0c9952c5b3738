package tests

import (
	"math"
	"math/rand"
	"reflect"
	"testing"

	"loop.example/kilncrew/impl"
)

// upBoss is in the midst of crewPlan: of its tasks 0, 1 and 3 have results, 2 and 4 are handed out, 8 waits for others.
func upBoss() impl.Boss {
	x := texts(10)
	return impl.Boss{
		Workers: 4, Up: true, Now: 50, Since: 0, Epoch: 2, Given: 7,
		Log:     impl.Log{Safe: []string{begins(1), gives(1, 0, x[0]), begins(2)}, Loose: []string{gives(2, 3, x[3]), gives(2, 1, x[1])}},
		Results: results(10, map[int]string{0: x[0], 1: x[1], 3: x[3]}),
		Jobs:    []impl.Job{2: {Lease: 1000005, Worker: 1, Until: 55}, 4: {Lease: 1000007, Worker: 3, Until: 62}, 9: {}},
		Seats:   []impl.Seat{{Epoch: 5}, {Free: true, Epoch: 2}, {}, {Free: true, Epoch: 300}},
		Owed:    []impl.Owed{{Worker: 2, Lease: 1000001, Task: 3}, {Worker: 4, Lease: 9, Task: 1}},
	}
}

func downBoss() impl.Boss {
	return impl.Boss{Workers: 4, Now: 50, Log: impl.Log{Safe: []string{begins(1), gives(1, 0, texts(1)[0]), begins(2)}}}
}

func copyOf[T any](list []T) []T {
	return append([]T(nil), list...)
}

// cloneBoss gives an empty list as nil, so that clones can be held against each other.
func cloneBoss(b impl.Boss) impl.Boss {
	b.Log = impl.Log{Safe: copyOf(b.Log.Safe), Loose: copyOf(b.Log.Loose)}
	b.Results, b.Jobs, b.Seats, b.Owed = copyOf(b.Results), copyOf(b.Jobs), copyOf(b.Seats), copyOf(b.Owed)
	return b
}

func bossWith(b impl.Boss, change func(b *impl.Boss)) impl.Boss {
	b = cloneBoss(b)
	change(&b)
	return b
}

func cloneLed(l impl.Led) impl.Led {
	l.Boss = cloneBoss(l.Boss)
	var out []impl.Message
	for _, m := range l.Out {
		out = append(out, cloneMessage(m))
	}
	l.Out = out
	return l
}

func checkLed(t *testing.T, what string, got, want impl.Led) {
	t.Helper()
	if !reflect.DeepEqual(cloneLed(got), cloneLed(want)) {
		t.Fatalf("%s:\n got %+v\nwant %+v", what, got, want)
	}
}

func checkBoss(t *testing.T, what string, got, want impl.Boss) {
	t.Helper()
	checkLed(t, what, impl.Led{Boss: got}, impl.Led{Boss: want})
}

func checkValid(t *testing.T, what string, b impl.Boss, p impl.Plan, want bool) {
	t.Helper()
	if got := impl.ValidBoss(b, p); got != want {
		t.Errorf("%s: %v: %+v", what, got, b)
	}
}

// checkSending asks that all that a coordinator sends is valid, from it and of its epoch.
func checkSending(t *testing.T, b impl.Boss, out []impl.Message) {
	t.Helper()
	for _, m := range out {
		if impl.FormMessage(m, "key") == "" || m.From != 0 || m.Epoch != b.Epoch || m.To > b.Workers {
			t.Fatalf("%+v sends %+v", b, m)
		}
	}
}

func TestCoordinatorsAreTheDocuments(t *testing.T) {
	if got := []int{impl.LeaseTicks, impl.FlushTicks, impl.MaxFlight}; !reflect.DeepEqual(got, []int{12, 2, 2000}) {
		t.Errorf("%v", got)
	}
}

func TestValidCoordinators(t *testing.T) {
	p := crewPlan()
	checkValid(t, "Up", upBoss(), p, true)
	checkValid(t, "not Up", downBoss(), p, true)
	for n := -1; n < 11; n++ {
		checkValid(t, "without a log", impl.Boss{Workers: n}, p, 1 <= n && n <= 8)
	}
	checkValid(t, "Up without a log", impl.Boss{Workers: 1, Up: true, Results: make([]string, 10), Jobs: make([]impl.Job, 10), Seats: make([]impl.Seat, 1)}, p, false)
	checkValid(t, "Up in its first epoch", impl.Boss{Workers: 1, Up: true, Epoch: 1, Log: impl.Log{Safe: epochs(1)}, Results: make([]string, 10), Jobs: make([]impl.Job, 10), Seats: make([]impl.Seat, 1)}, p, true)
	checkValid(t, "Up with nothing safe", impl.Boss{Workers: 1, Up: true, Epoch: 1, Log: impl.Log{Loose: epochs(1)}, Results: make([]string, 10), Jobs: make([]impl.Job, 10), Seats: make([]impl.Seat, 1)}, p, true)
	empty := bossWith(downBoss(), func(b *impl.Boss) {
		b.Log.Loose, b.Results, b.Jobs, b.Seats, b.Owed = []string{}, []string{}, []impl.Job{}, []impl.Seat{}, []impl.Owed{}
	})
	checkValid(t, "not Up with empty lists", empty, p, true)
	for _, plans := range wrongPlans() {
		for _, p := range plans {
			checkValid(t, "a wrong plan", upBoss(), p, false)
			checkValid(t, "a wrong plan", downBoss(), p, false)
			checkValid(t, "a wrong plan", impl.Boss{Workers: 1}, p, false)
		}
	}
	checkValid(t, "another plan", upBoss(), plainPlan(11), false)
	checkValid(t, "another plan", upBoss(), plainPlan(9), false)
	checkValid(t, "another plan of that size", upBoss(), plainPlan(10), true)
	checkValid(t, "a plan whose task 3 stands on 2", upBoss(), standing(10, 3, 2), false)
	checkValid(t, "a plan whose task 4 stands on 2", upBoss(), standing(10, 4, 2), false)
}

// TestFieldsOfCoordinators gives each number of a coordinator values at, within and beyond its limits; one that is not Up has the limits 0 and 0 for most.
func TestFieldsOfCoordinators(t *testing.T) {
	numbers := []int{math.MinInt, -1000000, -1, 0, 1, 2, 3, 4, 5, 6, 7, 8, 9, 10, 39, 40, 49, 50, 51, 54, 55, 61, 62, 63, 300, 301, 999999, 1000000, 1000001, 1000004, 1000005, 1000006, 1000007, 1000008, 2000000, 2000001, 2000002, 300000000, 300000001, math.MaxInt - 11, math.MaxInt}
	none := [2]int{0, 0}
	for _, f := range []struct {
		name     string
		set      func(b *impl.Boss, n int)
		up, down [2]int
	}{
		{"Workers", func(b *impl.Boss, n int) { b.Workers = n }, [2]int{4, 4}, [2]int{1, 8}},
		{"Now", func(b *impl.Boss, n int) { b.Now = n }, [2]int{50, 54}, [2]int{0, 1000000}},
		{"Now without jobs", func(b *impl.Boss, n int) { b.Now, b.Jobs = n, make([]impl.Job, len(b.Jobs)) }, [2]int{0, 1000000}, [2]int{0, 1000000}},
		{"Since", func(b *impl.Boss, n int) { b.Since = n }, [2]int{0, 1}, none},
		{"Epoch", func(b *impl.Boss, n int) { b.Epoch = n }, [2]int{2, 2}, none},
		{"Given", func(b *impl.Boss, n int) { b.Given = n }, [2]int{7, 1000000}, none},
		{"Given without jobs", func(b *impl.Boss, n int) { b.Given, b.Jobs = n, make([]impl.Job, len(b.Jobs)) }, [2]int{0, 1000000}, none},
	} {
		for _, n := range numbers {
			checkValid(t, f.name, bossWith(upBoss(), func(b *impl.Boss) { f.set(b, n) }), crewPlan(), f.up[0] <= n && n <= f.up[1])
			checkValid(t, f.name+" of one that is not Up", bossWith(downBoss(), func(b *impl.Boss) { f.set(b, n) }), crewPlan(), f.down[0] <= n && n <= f.down[1])
		}
	}
	for _, f := range []struct {
		name string
		set  func(b *impl.Boss, n int)
		in   [2]int
	}{
		{"Lease", func(b *impl.Boss, n int) { b.Jobs[2].Lease = n }, [2]int{1000001, 1000006}},
		{"Lease with Given at its limit", func(b *impl.Boss, n int) { b.Given, b.Jobs[2].Lease = 1000000, n; b.Jobs[4] = impl.Job{} }, [2]int{1000001, 2000000}},
		{"Worker of a job", func(b *impl.Boss, n int) { b.Jobs[2].Worker = n }, [2]int{1, 4}},
		{"Until", func(b *impl.Boss, n int) { b.Jobs[2].Until = n }, [2]int{51, 62}},
		{"Lease of no job", func(b *impl.Boss, n int) { b.Jobs[5].Lease = n }, none},
		{"Worker of no job", func(b *impl.Boss, n int) { b.Jobs[5].Worker = n }, none},
		{"Until of no job", func(b *impl.Boss, n int) { b.Jobs[5].Until = n }, none},
		{"Epoch of a Seat", func(b *impl.Boss, n int) { b.Seats[3].Epoch = n }, [2]int{0, 300}},
		{"Worker of Owed", func(b *impl.Boss, n int) { b.Owed[1].Worker = n }, [2]int{1, 4}},
		{"Lease of Owed", func(b *impl.Boss, n int) { b.Owed[1].Lease = n }, [2]int{1, 300000000}},
	} {
		for _, n := range numbers {
			checkValid(t, f.name, bossWith(upBoss(), func(b *impl.Boss) { f.set(b, n) }), crewPlan(), f.in[0] <= n && n <= f.in[1])
		}
	}
	for _, task := range numbers {
		b := bossWith(upBoss(), func(b *impl.Boss) { b.Owed[0].Task = task })
		checkValid(t, "Task of Owed", b, crewPlan(), task == 0 || task == 1 || task == 3)
	}
}

// TestTicksOfLeases: at each Now the Until of a job lies above it, by LeaseTicks at most.
func TestTicksOfLeases(t *testing.T) {
	for _, now := range []int{0, 1, 50, 999988, 999999, 1000000} {
		for until := now - 2; until < now+20; until++ {
			b := bossWith(upBoss(), func(b *impl.Boss) {
				b.Now, b.Jobs[4] = now, impl.Job{}
				b.Jobs[2].Until = until
			})
			checkValid(t, "Until", b, crewPlan(), now < until && until <= now+12)
		}
	}
}

// wrongBosses are coordinators that are not valid for crewPlan.
func wrongBosses() map[string]impl.Boss {
	up := func(change func(b *impl.Boss)) impl.Boss { return bossWith(upBoss(), change) }
	down := func(change func(b *impl.Boss)) impl.Boss { return bossWith(downBoss(), change) }
	out := map[string]impl.Boss{
		"nothing":                   {},
		"nothing, Up":               {Up: true},
		"no workers":                down(func(b *impl.Boss) { b.Workers = 0 }),
		"too many workers":          down(func(b *impl.Boss) { b.Workers = 9 }),
		"before time":               down(func(b *impl.Boss) { b.Now = -1 }),
		"behind time":               down(func(b *impl.Boss) { b.Now = 1000001 }),
		"behind time, Up":           up(func(b *impl.Boss) { b.Now, b.Jobs = 1000001, make([]impl.Job, 10) }),
		"down, a Loose entry":       down(func(b *impl.Boss) { b.Log.Loose = []string{begins(3)} }),
		"down, all Loose":           down(func(b *impl.Boss) { b.Log.Loose, b.Log.Safe = b.Log.Safe, nil }),
		"down, Since":               down(func(b *impl.Boss) { b.Since = 1 }),
		"down, Epoch":               down(func(b *impl.Boss) { b.Epoch = 2 }),
		"down, Given":               down(func(b *impl.Boss) { b.Given = 1 }),
		"down, Results":             down(func(b *impl.Boss) { b.Results = upBoss().Results }),
		"down, empty Results":       down(func(b *impl.Boss) { b.Results = make([]string, 1) }),
		"down, Jobs":                down(func(b *impl.Boss) { b.Jobs = make([]impl.Job, 10) }),
		"down, one Job":             down(func(b *impl.Boss) { b.Jobs = make([]impl.Job, 1) }),
		"down, Seats":               down(func(b *impl.Boss) { b.Seats = make([]impl.Seat, 4) }),
		"down, one Seat":            down(func(b *impl.Boss) { b.Seats = make([]impl.Seat, 1) }),
		"down, Owed":                down(func(b *impl.Boss) { b.Owed = []impl.Owed{{Worker: 1, Lease: 1, Task: 0}} }),
		"down, nothing owed":        down(func(b *impl.Boss) { b.Owed = make([]impl.Owed, 1) }),
		"down but for Up":           up(func(b *impl.Boss) { b.Up = false }),
		"Up, else down":             down(func(b *impl.Boss) { b.Up = true }),
		"a result of its own":       up(func(b *impl.Boss) { b.Results[5] = "eight888" }),
		"another result":            up(func(b *impl.Boss) { b.Results[3] = "eight888" }),
		"no result":                 up(func(b *impl.Boss) { b.Results[3], b.Owed = "", nil }),
		"one result too few":        up(func(b *impl.Boss) { b.Results = b.Results[:9] }),
		"one result too many":       up(func(b *impl.Boss) { b.Results = append(b.Results, "") }),
		"no results":                up(func(b *impl.Boss) { b.Results = nil }),
		"one job too few":           up(func(b *impl.Boss) { b.Jobs = b.Jobs[:9] }),
		"one job too many":          up(func(b *impl.Boss) { b.Jobs = append(b.Jobs, impl.Job{}) }),
		"no jobs":                   up(func(b *impl.Boss) { b.Jobs = nil }),
		"one seat too few":          up(func(b *impl.Boss) { b.Seats = b.Seats[:3] }),
		"one seat too many":         up(func(b *impl.Boss) { b.Seats = append(b.Seats, impl.Seat{}) }),
		"no seats":                  up(func(b *impl.Boss) { b.Seats = nil }),
		"two jobs, one lease":       up(func(b *impl.Boss) { b.Jobs[4].Lease = b.Jobs[2].Lease }),
		"the same job twice":        up(func(b *impl.Boss) { b.Jobs[5] = b.Jobs[4] }),
		"the same job at the ends":  up(func(b *impl.Boss) { b.Jobs[9] = b.Jobs[2] }),
		"a job with a result":       up(func(b *impl.Boss) { b.Jobs[3] = impl.Job{Lease: 1000001, Worker: 1, Until: 60} }),
		"a first job with a result": up(func(b *impl.Boss) { b.Jobs[0] = impl.Job{Lease: 1000001, Worker: 1, Until: 60} }),
		"a job without Deps":        up(func(b *impl.Boss) { b.Jobs[8] = impl.Job{Lease: 1000001, Worker: 1, Until: 60} }),
		"a job without a lease":     up(func(b *impl.Boss) { b.Jobs[2].Lease = 0 }),
		"a lease of epoch 1":        up(func(b *impl.Boss) { b.Jobs[2].Lease = 5 }),
		"the last lease before":     up(func(b *impl.Boss) { b.Jobs[2].Lease = 1000000 }),
		"the next lease":            up(func(b *impl.Boss) { b.Jobs[2].Lease = 1000008 }),
		"a lease of epoch 3":        up(func(b *impl.Boss) { b.Jobs[2].Lease = 2000001 }),
		"nothing given":             up(func(b *impl.Boss) { b.Given = 0 }),
		"owed for no result":        up(func(b *impl.Boss) { b.Owed[0].Task = 5 }),
		"owed for a job":            up(func(b *impl.Boss) { b.Owed[0].Task = 2 }),
		"owed for no task":          up(func(b *impl.Boss) { b.Owed[0].Task = 10 }),
		"nothing owed":              up(func(b *impl.Boss) { b.Owed[0] = impl.Owed{} }),
		"too much owed":             up(func(b *impl.Boss) { b.Owed = manyOwed(2001) }),
		"an entry too many":         up(func(b *impl.Boss) { b.Log.Loose = append(b.Log.Loose, gives(2, 5, "eight888")) }),
		"an epoch too many":         up(func(b *impl.Boss) { b.Log.Loose = append(b.Log.Loose, begins(3)) }),
		"parts turned around":       up(func(b *impl.Boss) { b.Log.Safe, b.Log.Loose = b.Log.Loose, b.Log.Safe }),
	}
	for what, entries := range wrongEntries() {
		out["down, log with "+what] = down(func(b *impl.Boss) { b.Log.Safe = entries })
		out["Up, log with "+what] = up(func(b *impl.Boss) { b.Log = impl.Log{Safe: entries[:1], Loose: entries[1:]} })
	}
	return out
}

func manyOwed(n int) []impl.Owed {
	var out []impl.Owed
	for i := range n {
		out = append(out, impl.Owed{Worker: 1 + i%4, Lease: 5000 + i, Task: 0})
	}
	return out
}

func TestWrongCoordinators(t *testing.T) {
	p := crewPlan()
	for what, b := range wrongBosses() {
		checkValid(t, what, b, p, false)
		checkLed(t, "a tick, "+what, impl.BossTick(b, p), impl.Led{})
		for _, m := range append(toBoss(), impl.Message{}) {
			checkLed(t, "taking, "+what, impl.BossTake(b, p, m), impl.Led{})
		}
		for _, keep := range []int{-1, 0, 1, 5} {
			checkBoss(t, "a fall, "+what, impl.BossFall(b, p, keep), impl.Boss{})
		}
		checkBoss(t, "a rise, "+what, impl.BossRise(b, p), impl.Boss{})
	}
	for _, plans := range wrongPlans() {
		for _, p := range plans {
			for _, b := range []impl.Boss{upBoss(), downBoss(), {Workers: 1}} {
				checkLed(t, "a tick with a wrong plan", impl.BossTick(b, p), impl.Led{})
				checkLed(t, "taking with a wrong plan", impl.BossTake(b, p, toBoss()[0]), impl.Led{})
				checkLed(t, "taking nothing with a wrong plan", impl.BossTake(b, p, impl.Message{}), impl.Led{})
				checkBoss(t, "a fall with a wrong plan", impl.BossFall(b, p, 1), impl.Boss{})
				checkBoss(t, "a rise with a wrong plan", impl.BossRise(b, p), impl.Boss{})
			}
		}
	}
}

// toBoss are messages that a coordinator like upBoss takes.
func toBoss() []impl.Message {
	return []impl.Message{
		{Kind: impl.MsgHere, From: 1, Epoch: 9},
		{Kind: impl.MsgBeat, From: 1, Epoch: 9, Lease: 1000005},
		{Kind: impl.MsgResult, From: 1, Epoch: 9, Lease: 1000005, Task: 2, Text: "eight888"},
		{Kind: impl.MsgResult, From: 1, Epoch: 9, Lease: 1000005, Task: 8, Text: "eight888"},
		{Kind: impl.MsgResult, From: 1, Epoch: 9, Lease: 3, Task: 0, Text: texts(1)[0]},
	}
}

func TestOwedAtItsLimit(t *testing.T) {
	for n, want := range map[int]bool{0: true, 1: true, 1999: true, 2000: true, 2001: false, 4000: false} {
		checkValid(t, "so many owed", bossWith(upBoss(), func(b *impl.Boss) { b.Owed = manyOwed(n) }), crewPlan(), want)
	}
	same := bossWith(upBoss(), func(b *impl.Boss) { b.Owed = append(b.Owed, b.Owed[0], b.Owed[0]) })
	checkValid(t, "one that is owed twice", same, crewPlan(), true)
}

// fullBoss is Up with a log of MaxLog entries, so many of its 40 tasks with results, the last loose entries of it Loose.
func fullBoss(done, loose int) impl.Boss {
	full := fullLog(done)
	of := map[int]string{}
	for task := range done {
		of[task] = texts(40)[task]
	}
	return impl.Boss{
		Workers: 2, Up: true, Now: 10, Epoch: 310 - done,
		Log:     impl.Log{Safe: full[:310-loose], Loose: full[310-loose:]},
		Results: results(40, of), Jobs: make([]impl.Job, 40), Seats: []impl.Seat{{Epoch: 3}, {Epoch: 3}},
	}
}

func TestLogAtItsLimit(t *testing.T) {
	p := plainPlan(40)
	for _, done := range []int{10, 20, 40} {
		for _, loose := range []int{0, 1, 10, 309, 310} {
			b := fullBoss(done, loose)
			checkValid(t, "310 entries", b, p, true)
			if done < 40 {
				b.Results[done] = "eight888"
				b.Log.Loose = append(copyOf(b.Log.Loose), gives(b.Epoch, done, "eight888"))
				checkValid(t, "311 entries", b, p, false)
			}
		}
	}
}

// bossTickWanted is a tick of a valid coordinator as the document says it.
func bossTickWanted(b impl.Boss, p impl.Plan) impl.Led {
	b = cloneBoss(b)
	if b.Now == 1000000 {
		return impl.Led{Boss: b}
	}
	b.Now++
	if !b.Up {
		return impl.Led{Boss: b}
	}
	var out []impl.Message
	for i := range b.Jobs {
		if b.Jobs[i].Until <= b.Now {
			b.Jobs[i] = impl.Job{}
		}
	}
	for i, task := range p.Tasks {
		inputs := []string{}
		for _, d := range task.Deps {
			if b.Results[d] != "" {
				inputs = append(inputs, b.Results[d])
			}
		}
		if b.Results[i] != "" || b.Jobs[i].Lease != 0 || len(inputs) < len(task.Deps) {
			continue
		}
		for n := 1; n <= b.Workers; n++ {
			if b.Seats[n-1].Free && b.Given < 1000000 {
				b.Given++
				lease := (b.Epoch-1)*1000000 + b.Given
				b.Jobs[i] = impl.Job{Lease: lease, Worker: n, Until: b.Now + 12}
				b.Seats[n-1].Free = false
				out = append(out, impl.Message{Kind: impl.MsgOffer, To: n, Epoch: b.Epoch, Lease: lease, Task: i, Inputs: inputs})
				break
			}
		}
	}
	b.Since++
	if b.Since == 2 {
		b.Since = 0
		b.Log = impl.Log{Safe: append(b.Log.Safe, b.Log.Loose...)}
		for _, o := range b.Owed {
			out = append(out, impl.Message{Kind: impl.MsgThanks, To: o.Worker, Epoch: b.Epoch, Lease: o.Lease})
		}
		b.Owed = nil
	}
	return impl.Led{Boss: b, Out: out}
}

// bossTakeWanted is what becomes of a valid coordinator that is given a valid message, as the document says it.
func bossTakeWanted(b impl.Boss, p impl.Plan, m impl.Message) impl.Boss {
	b = cloneBoss(b)
	if !b.Up || m.To != 0 || m.From > b.Workers {
		return b
	}
	seat := &b.Seats[m.From-1]
	switch m.Kind {
	case impl.MsgHere:
		if m.Epoch >= seat.Epoch {
			seat.Free, seat.Epoch = true, m.Epoch
			for i, j := range b.Jobs {
				if j.Worker == m.From {
					b.Jobs[i] = impl.Job{}
				}
			}
		}
	case impl.MsgBeat:
		for i, j := range b.Jobs {
			if j.Lease == m.Lease {
				b.Jobs[i].Until = b.Now + 12
			}
		}
	case impl.MsgResult:
		if m.Task >= len(p.Tasks) {
			return b
		}
		can := b.Results[m.Task] == "" && len(b.Log.Safe)+len(b.Log.Loose) < 310
		for _, d := range p.Tasks[m.Task].Deps {
			can = can && b.Results[d] != ""
		}
		if can {
			b.Results[m.Task] = m.Text
			b.Log.Loose = append(b.Log.Loose, gives(b.Epoch, m.Task, m.Text))
			b.Jobs[m.Task] = impl.Job{}
		}
		if b.Results[m.Task] == "" && m.Epoch >= seat.Epoch {
			seat.Free, seat.Epoch = true, m.Epoch
		}
		owed := len(b.Owed) >= 2000
		for _, o := range b.Owed {
			owed = owed || o.Worker == m.From && o.Lease == m.Lease
		}
		if b.Results[m.Task] == m.Text && !owed {
			b.Owed = append(b.Owed, impl.Owed{Worker: m.From, Lease: m.Lease, Task: m.Task})
		}
	}
	return b
}

// checkTick asks for a tick as the document says it, and for P6 and P8 of it.
func checkTick(t *testing.T, b impl.Boss, p impl.Plan) impl.Led {
	t.Helper()
	got := impl.BossTick(b, p)
	checkLed(t, "a tick", got, bossTickWanted(b, p))
	checkValid(t, "behind a tick", got.Boss, p, true)
	checkSending(t, b, got.Out)
	return got
}

// checkTakes asks for what is taken as the document says it, and for P6 of it.
func checkTakes(t *testing.T, b impl.Boss, p impl.Plan, m impl.Message, want impl.Boss) impl.Boss {
	t.Helper()
	got := impl.BossTake(b, p, m)
	checkLed(t, "taking", got, impl.Led{Boss: want})
	checkValid(t, "behind taking", got.Boss, p, true)
	return got.Boss
}

func TestTickOfOneThatIsDown(t *testing.T) {
	p := crewPlan()
	for now, want := range map[int]int{0: 1, 50: 51, 999998: 999999, 999999: 1000000, 1000000: 1000000} {
		b := bossWith(downBoss(), func(b *impl.Boss) { b.Now = now })
		checkLed(t, "a tick of one that is not Up", impl.BossTick(b, p), impl.Led{Boss: bossWith(b, func(b *impl.Boss) { b.Now = want })})
		for _, m := range append(append(messages(), toBoss()...), impl.Message{}) {
			checkLed(t, "one that is not Up takes", impl.BossTake(b, p, m), impl.Led{Boss: b})
		}
	}
}

// TestTickByHand writes out three ticks of upBoss.
func TestTickByHand(t *testing.T) {
	p, b, x := crewPlan(), upBoss(), texts(10)
	first := checkTick(t, b, p)
	want := bossWith(b, func(b *impl.Boss) {
		b.Now, b.Since, b.Given = 51, 1, 9
		b.Jobs[5], b.Jobs[6] = impl.Job{Lease: 1000008, Worker: 2, Until: 63}, impl.Job{Lease: 1000009, Worker: 4, Until: 63}
		b.Seats[1].Free, b.Seats[3].Free = false, false
	})
	checkLed(t, "the first tick", first, impl.Led{Boss: want, Out: []impl.Message{
		{Kind: impl.MsgOffer, To: 2, Epoch: 2, Lease: 1000008, Task: 5},
		{Kind: impl.MsgOffer, To: 4, Epoch: 2, Lease: 1000009, Task: 6},
	}})
	second := checkTick(t, first.Boss, p)
	want.Now, want.Since, want.Owed = 52, 0, nil
	want.Log = impl.Log{Safe: []string{begins(1), gives(1, 0, x[0]), begins(2), gives(2, 3, x[3]), gives(2, 1, x[1])}}
	checkLed(t, "the second tick", second, impl.Led{Boss: want, Out: []impl.Message{
		{Kind: impl.MsgThanks, To: 2, Epoch: 2, Lease: 1000001},
		{Kind: impl.MsgThanks, To: 4, Epoch: 2, Lease: 9},
	}})
	third := checkTick(t, second.Boss, p)
	want.Now, want.Since = 53, 1
	checkLed(t, "the third tick", third, impl.Led{Boss: want})
}

// TestOffersThenThanks: what is owed goes out behind what is handed out, in one tick, and the offers have the Deps' results as Inputs, in order.
func TestOffersThenThanks(t *testing.T) {
	p, x := crewPlan(), texts(10)
	b := bossWith(upBoss(), func(b *impl.Boss) { b.Since, b.Jobs[2] = 1, impl.Job{} })
	got := checkTick(t, b, p).Out
	want := []impl.Message{
		{Kind: impl.MsgOffer, To: 2, Epoch: 2, Lease: 1000008, Task: 2, Inputs: []string{x[0], x[1]}},
		{Kind: impl.MsgOffer, To: 4, Epoch: 2, Lease: 1000009, Task: 5},
		{Kind: impl.MsgThanks, To: 2, Epoch: 2, Lease: 1000001},
		{Kind: impl.MsgThanks, To: 4, Epoch: 2, Lease: 9},
	}
	checkLed(t, "a flush", impl.Led{Out: got}, impl.Led{Out: want})
}

func TestTicksAtTheEndOfTime(t *testing.T) {
	p := crewPlan()
	for _, given := range []int{7, 999998, 999999, 1000000} {
		for _, now := range []int{999987, 999998, 999999, 1000000} {
			for _, since := range []int{0, 1} {
				b := bossWith(upBoss(), func(b *impl.Boss) {
					b.Now, b.Given, b.Since = now, given, since
					b.Jobs[2].Until, b.Jobs[4].Until = now+1, now+12
				})
				l := checkTick(t, b, p)
				if now == 1000000 {
					checkLed(t, "at the end of time", l, impl.Led{Boss: b})
					continue
				}
				offers := 0
				for _, m := range l.Out {
					if m.Kind == impl.MsgOffer {
						offers++
					}
				}
				if l.Boss.Now != now+1 || offers != min(2, 1000000-given) || l.Boss.Given != given+offers || l.Boss.Jobs[2].Lease == 1000005 {
					t.Errorf("at %d with %d given: %+v", now, given, l)
				}
			}
		}
	}
	last := bossWith(upBoss(), func(b *impl.Boss) {
		b.Epoch, b.Given, b.Since, b.Jobs = 300, 999999, 1, make([]impl.Job, 10)
		b.Log = impl.Log{Safe: epochs(300), Loose: []string{gives(300, 0, "eight888"), gives(300, 1, "eight888"), gives(300, 3, "eight888")}}
		b.Results = results(10, map[int]string{0: "eight888", 1: "eight888", 3: "eight888"})
	})
	if l := checkTick(t, last, p); len(l.Out) != 3 || l.Out[0].Lease != 300000000 || l.Out[0].Epoch != 300 {
		t.Errorf("the last lease: %+v", l.Out)
	}
}

func TestLeasesEnd(t *testing.T) {
	p := crewPlan()
	for until := 51; until <= 62; until++ {
		b := bossWith(upBoss(), func(b *impl.Boss) { b.Jobs[2].Until, b.Jobs[4], b.Seats = until, impl.Job{}, make([]impl.Seat, 4) })
		for b.Now < 64 {
			b = checkTick(t, b, p).Boss
			if held := b.Jobs[2] != (impl.Job{}); held != (b.Now < until) {
				t.Errorf("a lease until %d at %d: %+v", until, b.Now, b.Jobs[2])
			}
		}
	}
	// The task is handed out in the tick in which its lease ends, to another and to the same worker.
	for _, n := range []int{1, 2} {
		b := bossWith(upBoss(), func(b *impl.Boss) { b.Jobs[2].Until, b.Seats = 51, make([]impl.Seat, 4); b.Seats[n-1].Free = true })
		l := checkTick(t, b, p)
		if want := (impl.Job{Lease: 1000008, Worker: n, Until: 63}); len(l.Out) != 1 || l.Boss.Jobs[2] != want || l.Out[0].Task != 2 || l.Out[0].To != n {
			t.Errorf("to %d: %+v", n, l)
		}
	}
}

// TestHandingOut has more tasks than free seats, as many, and more seats than tasks.
func TestHandingOut(t *testing.T) {
	for tasks := 1; tasks <= 12; tasks++ {
		for workers := 1; workers <= 8; workers++ {
			for free := range 1 << workers {
				p := plainPlan(tasks)
				b := impl.BossRise(impl.Boss{Workers: workers}, p)
				var seats []int
				for n := 1; n <= workers; n++ {
					if free>>(n-1)&1 == 1 {
						b = impl.BossTake(b, p, impl.Message{Kind: impl.MsgHere, From: n, Epoch: 1}).Boss
						seats = append(seats, n)
					}
				}
				l := checkTick(t, b, p)
				if len(l.Out) != min(tasks, len(seats)) {
					t.Fatalf("%d tasks, seats %v: %+v", tasks, seats, l.Out)
				}
				for i, m := range l.Out {
					if m.Task != i || m.To != seats[i] || m.Lease != i+1 || l.Boss.Seats[m.To-1].Free {
						t.Fatalf("%d tasks, seats %v: %+v", tasks, seats, l.Out)
					}
				}
				if again := checkTick(t, l.Boss, p); tasks <= len(seats) && len(again.Out) != 0 {
					t.Fatalf("handed out twice: %+v", again.Out)
				}
			}
		}
	}
}

func TestTaskWaitsForDeps(t *testing.T) {
	p := standing(3, 2, 0, 1)
	b := impl.BossRise(impl.Boss{Workers: 4}, p)
	for n := 1; n <= 4; n++ {
		b = impl.BossTake(b, p, impl.Message{Kind: impl.MsgHere, From: n, Epoch: 1}).Boss
	}
	l := checkTick(t, b, p)
	for task := range 2 {
		if len(l.Out) != 2 || l.Boss.Jobs[2].Lease != 0 {
			t.Fatalf("%+v", l)
		}
		l.Boss = impl.BossTake(l.Boss, p, impl.Message{Kind: impl.MsgResult, From: 1 + task, Epoch: 1, Lease: 1 + task, Task: task, Text: texts(2)[task]}).Boss
		if task == 0 {
			l.Boss = checkTick(t, l.Boss, p).Boss
		}
	}
	want := impl.Message{Kind: impl.MsgOffer, To: 3, Epoch: 1, Lease: 3, Task: 2, Inputs: texts(2)}
	if l = checkTick(t, l.Boss, p); len(l.Out) != 1 || !reflect.DeepEqual(cloneMessage(l.Out[0]), want) {
		t.Errorf("%+v", l.Out)
	}
}

func TestTakingByKind(t *testing.T) {
	p, b := crewPlan(), upBoss()
	all := append(messages(), toBoss()...)
	for _, m := range all {
		checkTakes(t, b, p, m, bossTakeWanted(b, p, m))
		if m.Kind == impl.MsgOffer || m.Kind == impl.MsgThanks || m.From > 4 {
			checkTakes(t, b, p, m, b)
		}
	}
}

// TestTakingWrongMessages bends each message that upBoss would take into one that is not valid.
func TestTakingWrongMessages(t *testing.T) {
	p, b := crewPlan(), upBoss()
	changes := map[string]func(m *impl.Message){
		"nothing":           func(m *impl.Message) { *m = impl.Message{} },
		"no kind":           func(m *impl.Message) { m.Kind = 0 },
		"a kind too far":    func(m *impl.Message) { m.Kind = 6 },
		"another kind":      func(m *impl.Message) { m.Kind = impl.MsgOffer },
		"to a worker":       func(m *impl.Message) { m.To = 1 },
		"from nobody":       func(m *impl.Message) { m.From = 0 },
		"from below":        func(m *impl.Message) { m.From = -1 },
		"from one above":    func(m *impl.Message) { m.From = 5 },
		"from the last":     func(m *impl.Message) { m.From = 8 },
		"from one too far":  func(m *impl.Message) { m.From = 9 },
		"from afar":         func(m *impl.Message) { m.From = math.MaxInt },
		"no epoch":          func(m *impl.Message) { m.Epoch = 0 },
		"an epoch too far":  func(m *impl.Message) { m.Epoch = 301 },
		"an epoch afar":     func(m *impl.Message) { m.Epoch = math.MaxInt },
		"a lease below 0":   func(m *impl.Message) { m.Lease = -1 },
		"a lease too far":   func(m *impl.Message) { m.Lease = 300000001 },
		"a task below 0":    func(m *impl.Message) { m.Task = -1 },
		"a task too far":    func(m *impl.Message) { m.Task = 40 },
		"a task afar":       func(m *impl.Message) { m.Task = math.MinInt },
		"a short text":      func(m *impl.Message) { m.Text = "seven77" },
		"a long text":       func(m *impl.Message) { m.Text = "nine99999" },
		"an input":          func(m *impl.Message) { m.Inputs = texts(1) },
		"from and to afar":  func(m *impl.Message) { m.From, m.To = 0, 1 },
		"no lease, or one":  func(m *impl.Message) { m.Lease = map[bool]int{true: 0, false: 1}[m.Lease > 0] },
		"no text, or one":   func(m *impl.Message) { m.Text = map[bool]string{true: "", false: "eight888"}[m.Text != ""] },
		"a task of no plan": func(m *impl.Message) { m.Task = 10 },
		"the last task":     func(m *impl.Message) { m.Task = 39 },
	}
	for what, change := range changes {
		for _, m := range toBoss() {
			change(&m)
			checkLed(t, what, impl.BossTake(b, p, m), impl.Led{Boss: b})
		}
	}
}

// TestHere has Epochs below that of the seat, the same and above it.
func TestHere(t *testing.T) {
	p := crewPlan()
	b := bossWith(upBoss(), func(b *impl.Boss) { b.Jobs[5] = impl.Job{Lease: 1000001, Worker: 1, Until: 51} })
	for _, free := range []bool{false, true} {
		b.Seats[0].Free = free
		for epoch, fresh := range map[int]bool{1: false, 4: false, 5: true, 6: true, 300: true} {
			want := cloneBoss(b)
			if fresh {
				want.Seats[0] = impl.Seat{Free: true, Epoch: epoch}
				want.Jobs[2], want.Jobs[5] = impl.Job{}, impl.Job{}
			}
			checkTakes(t, b, p, impl.Message{Kind: impl.MsgHere, From: 1, Epoch: epoch}, want)
		}
	}
	// The last of the workers, and one without a job.
	checkTakes(t, b, p, impl.Message{Kind: impl.MsgHere, From: 4, Epoch: 299}, b)
	checkTakes(t, b, p, impl.Message{Kind: impl.MsgHere, From: 4, Epoch: 300}, b)
	checkTakes(t, b, p, impl.Message{Kind: impl.MsgHere, From: 2, Epoch: 7}, bossWith(b, func(b *impl.Boss) { b.Seats[1].Epoch = 7 }))
	checkTakes(t, b, p, impl.Message{Kind: impl.MsgHere, From: 3, Epoch: 1}, bossWith(b, func(b *impl.Boss) {
		b.Seats[2] = impl.Seat{Free: true, Epoch: 1}
		b.Jobs[4] = impl.Job{}
	}))
}

func TestBeats(t *testing.T) {
	p, b := crewPlan(), upBoss()
	renewed := bossWith(b, func(b *impl.Boss) { b.Jobs[2].Until = 62 })
	for lease, want := range map[int]impl.Boss{1: b, 5: b, 1000001: b, 1000004: b, 1000005: renewed, 1000006: b, 1000007: b, 1000008: b, 2000005: b, 300000000: b} {
		// The lease alone says which job is meant, whoever tells and from whatever epoch.
		for from := 1; from <= 4; from++ {
			for _, epoch := range []int{1, 5, 300} {
				checkTakes(t, b, p, impl.Message{Kind: impl.MsgBeat, From: from, Epoch: epoch, Lease: lease}, want)
			}
		}
	}
	late := bossWith(b, func(b *impl.Boss) { b.Now, b.Jobs[2].Until, b.Jobs[4].Until = 1000000, 1000001, 1000002 })
	checkTakes(t, late, p, impl.Message{Kind: impl.MsgBeat, From: 1, Epoch: 5, Lease: 1000005}, bossWith(late, func(b *impl.Boss) { b.Jobs[2].Until = 1000012 }))
}

func TestResultIsTaken(t *testing.T) {
	p, b := crewPlan(), upBoss()
	taken := func(from, lease, task int) impl.Boss {
		return bossWith(b, func(b *impl.Boss) {
			b.Results[task], b.Jobs[task] = "eight888", impl.Job{}
			b.Log.Loose = append(b.Log.Loose, gives(2, task, "eight888"))
			b.Owed = append(b.Owed, impl.Owed{Worker: from, Lease: lease, Task: task})
		})
	}
	// By the one who holds the lease, by another, late, of an epoch of the worker's that is over; handed out or not.
	for _, c := range [][4]int{{1, 5, 1000005, 2}, {1, 1, 1000005, 2}, {3, 9, 1000005, 2}, {4, 1, 7, 2}, {2, 1, 300000000, 4}, {1, 5, 1000005, 9}, {2, 2, 1, 5}} {
		m := impl.Message{Kind: impl.MsgResult, From: c[0], Epoch: c[1], Lease: c[2], Task: c[3], Text: "eight888"}
		got := checkTakes(t, b, p, m, taken(c[0], c[2], c[3]))
		// Told again, it changes nothing; by another worker or for another lease, it is one more that is owed.
		checkTakes(t, got, p, m, got)
		m.From = 1 + m.From%4
		checkTakes(t, got, p, m, bossWith(got, func(b *impl.Boss) {
			b.Owed = append(b.Owed, impl.Owed{Worker: m.From, Lease: m.Lease, Task: m.Task})
		}))
		m.From, m.Lease = c[0], 77
		checkTakes(t, got, p, m, bossWith(got, func(b *impl.Boss) {
			b.Owed = append(b.Owed, impl.Owed{Worker: m.From, Lease: 77, Task: m.Task})
		}))
		// Another text for a task that has a result is neither taken nor owed for.
		m.Text = "another!"
		checkTakes(t, got, p, m, got)
	}
}

// TestResultThatIsThere: a task that has a result keeps it, and no seat is freed.
func TestResultThatIsThere(t *testing.T) {
	p, b := crewPlan(), upBoss()
	for _, task := range []int{0, 1, 3} {
		for from := 1; from <= 4; from++ {
			m := impl.Message{Kind: impl.MsgResult, From: from, Epoch: 300, Lease: 1000005, Task: task, Text: "another!"}
			checkTakes(t, b, p, m, b)
			m.Text = b.Results[task]
			checkTakes(t, b, p, m, bossWith(b, func(b *impl.Boss) {
				b.Owed = append(b.Owed, impl.Owed{Worker: from, Lease: 1000005, Task: task})
			}))
		}
	}
	// Owed already: the worker and the lease are what counts, not the task.
	checkTakes(t, b, p, impl.Message{Kind: impl.MsgResult, From: 2, Epoch: 1, Lease: 1000001, Task: 3, Text: b.Results[3]}, b)
	checkTakes(t, b, p, impl.Message{Kind: impl.MsgResult, From: 2, Epoch: 1, Lease: 1000001, Task: 0, Text: b.Results[0]}, b)
	checkTakes(t, b, p, impl.Message{Kind: impl.MsgResult, From: 4, Epoch: 1, Lease: 9, Task: 1, Text: b.Results[1]}, b)
	for _, o := range []impl.Owed{{Worker: 4, Lease: 1000001, Task: 3}, {Worker: 2, Lease: 9, Task: 3}} {
		m := impl.Message{Kind: impl.MsgResult, From: o.Worker, Epoch: 1, Lease: o.Lease, Task: 3, Text: b.Results[3]}
		checkTakes(t, b, p, m, bossWith(b, func(b *impl.Boss) { b.Owed = append(b.Owed, o) }))
	}
}

// TestResultThatCannotBeTaken frees its worker, unless the worker has left that epoch behind; jobs stay as they are.
func TestResultThatCannotBeTaken(t *testing.T) {
	full := fullBoss(10, 4)
	full.Jobs[10] = impl.Job{Lease: 299000001, Worker: 1, Until: 22}
	full.Given = 1
	for _, c := range []struct {
		what string
		p    impl.Plan
		b    impl.Boss
		task int
	}{
		{"a Dep without a result", crewPlan(), bossWith(upBoss(), func(b *impl.Boss) { b.Seats[0].Epoch = 3 }), 8},
		{"a full log", plainPlan(40), full, 10},
		{"a full log, not handed out", plainPlan(40), full, 39},
	} {
		for _, free := range []bool{false, true} {
			c.b.Seats[0].Free = free
			for epoch, fresh := range map[int]bool{1: false, 2: false, 3: true, 4: true, 300: true} {
				m := impl.Message{Kind: impl.MsgResult, From: 1, Epoch: epoch, Lease: 5, Task: c.task, Text: "eight888"}
				want := cloneBoss(c.b)
				if fresh {
					want.Seats[0] = impl.Seat{Free: true, Epoch: epoch}
				}
				checkTakes(t, c.b, c.p, m, want)
			}
		}
	}
	// With a full log a result that is there is still owed for.
	m := impl.Message{Kind: impl.MsgResult, From: 2, Epoch: 3, Lease: 5, Task: 9, Text: full.Results[9]}
	checkTakes(t, full, plainPlan(40), m, bossWith(full, func(b *impl.Boss) { b.Owed = []impl.Owed{{Worker: 2, Lease: 5, Task: 9}} }))
}

// TestLastEntry: a log of one entry less than MaxLog takes one more result, and no second one.
func TestLastEntry(t *testing.T) {
	p := plainPlan(40)
	for _, loose := range []int{0, 1, 5, 309} {
		b := fullBoss(11, loose+1)
		b.Results[10], b.Log.Loose = "", b.Log.Loose[:loose]
		m := impl.Message{Kind: impl.MsgResult, From: 1, Epoch: 3, Lease: 5, Task: 20, Text: "eight888"}
		b = checkTakes(t, b, p, m, bossTakeWanted(b, p, m))
		if b.Results[20] != "eight888" || len(b.Log.Loose) != loose+1 || b.Seats[0].Free {
			t.Fatalf("%+v", b)
		}
		m.Task, m.Lease = 21, 6
		b = checkTakes(t, b, p, m, bossTakeWanted(b, p, m))
		if b.Results[21] != "" || len(b.Log.Loose) != loose+1 || !b.Seats[0].Free || len(b.Owed) != 1 {
			t.Fatalf("%+v", b)
		}
	}
}

func TestMostOwed(t *testing.T) {
	p := crewPlan()
	for n, room := range map[int]bool{1998: true, 1999: true, 2000: false} {
		b := bossWith(upBoss(), func(b *impl.Boss) { b.Owed = manyOwed(n) })
		there := impl.Message{Kind: impl.MsgResult, From: 1, Epoch: 1, Lease: 4000, Task: 0, Text: b.Results[0]}
		fresh := impl.Message{Kind: impl.MsgResult, From: 1, Epoch: 1, Lease: 1000005, Task: 2, Text: "eight888"}
		for _, m := range []impl.Message{there, fresh} {
			got := checkTakes(t, b, p, m, bossTakeWanted(b, p, m))
			if got.Results[m.Task] != m.Text || room != (len(got.Owed) == n+1) {
				t.Errorf("%d owed: %d behind it", n, len(got.Owed))
			}
		}
		if l := checkTick(t, checkTick(t, b, p).Boss, p); len(l.Out) != n || l.Out[n-1].Lease != 4999+n {
			t.Errorf("%d owed: %d thanks", n, len(l.Out))
		}
	}
}

// TestThanksComeBehindTheFlush: a result is owed for at once, but thanks go when it is safe; told again behind them, it is thanked for again.
func TestThanksComeBehindTheFlush(t *testing.T) {
	p := plainPlan(1)
	for since := range 2 {
		b := impl.BossRise(impl.Boss{Workers: 1}, p)
		for range since {
			b = checkTick(t, b, p).Boss
		}
		m := impl.Message{Kind: impl.MsgResult, From: 1, Epoch: 1, Lease: 5, Task: 0, Text: "eight888"}
		for range 3 {
			b = impl.BossTake(b, p, m).Boss
			for b.Since == 0 {
				l := checkTick(t, b, p)
				if len(l.Out) != 0 {
					t.Fatalf("ahead of the flush: %+v", l.Out)
				}
				b = impl.BossTake(l.Boss, p, m).Boss
			}
			l := checkTick(t, b, p)
			if !reflect.DeepEqual(cloneLed(l).Out, []impl.Message{{Kind: impl.MsgThanks, To: 1, Epoch: 1, Lease: 5}}) || len(l.Boss.Log.Loose) != 0 || !reflect.DeepEqual(l.Boss.Log.Safe, append(epochs(1), gives(1, 0, "eight888"))) {
				t.Fatalf("at the flush: %+v", l)
			}
			b = l.Boss
			for range 4 {
				l = checkTick(t, b, p)
				if len(l.Out) != 0 {
					t.Fatalf("behind the flush: %+v", l.Out)
				}
				b = l.Boss
			}
		}
	}
}

func TestFallsOfTheCoordinator(t *testing.T) {
	p, x := crewPlan(), texts(10)
	all := []string{begins(1), gives(1, 0, x[0]), begins(2), gives(2, 3, x[3]), gives(2, 1, x[1])}
	for keep, n := range map[int]int{math.MinInt: 3, -1: 3, 0: 3, 1: 4, 2: 5, 3: 5, 100: 5, math.MaxInt: 5} {
		down := impl.BossFall(upBoss(), p, keep)
		checkBoss(t, "a fall", down, impl.Boss{Workers: 4, Now: 50, Log: impl.Log{Safe: all[:n]}})
		checkValid(t, "behind a fall", down, p, true)
		for _, again := range []int{-1, 0, 1, 9} {
			checkBoss(t, "a second fall", impl.BossFall(down, p, again), down)
		}
		up := impl.BossRise(down, p)
		want := impl.Boss{Workers: 4, Up: true, Now: 50, Epoch: 3, Log: impl.Log{Safe: append(copyOf(all[:n]), begins(3))}, Results: replayWanted(p, all[:n]).Results, Jobs: make([]impl.Job, 10), Seats: make([]impl.Seat, 4)}
		checkBoss(t, "a rise", up, want)
		checkValid(t, "behind a rise", up, p, true)
		checkBoss(t, "a second rise", impl.BossRise(up, p), up)
	}
	checkBoss(t, "a rise of one that is Up", impl.BossRise(upBoss(), p), upBoss())
	checkBoss(t, "a fall of one that is not Up", impl.BossFall(downBoss(), p, 1), downBoss())
}

func TestRisesAtTheLimits(t *testing.T) {
	for _, c := range []struct {
		what  string
		log   []string
		rises bool
	}{
		{"no log", nil, true},
		{"299 epochs", epochs(299), true},
		{"299 epochs and 10 results", append(epochs(299), resultsIn(299, 10)...), true},
		{"299 epochs and 11 results: 310 entries", append(epochs(299), resultsIn(299, 11)...), false},
		{"300 epochs", epochs(300), false},
		{"300 epochs and 9 results", append(epochs(300), resultsIn(300, 9)...), false},
		{"300 epochs and 10 results", append(epochs(300), resultsIn(300, 10)...), false},
		{"269 epochs and 40 results", append(epochs(269), resultsIn(269, 40)...), true},
		{"270 epochs and 40 results: 310 entries", append(epochs(270), resultsIn(270, 40)...), false},
	} {
		p := plainPlan(40)
		down := impl.Boss{Workers: 8, Now: 1000000, Log: impl.Log{Safe: c.log}}
		checkValid(t, c.what, down, p, true)
		want := down
		if c.rises {
			s := replayWanted(p, c.log)
			want = impl.Boss{Workers: 8, Up: true, Now: 1000000, Epoch: s.Epoch + 1, Log: impl.Log{Safe: append(copyOf(c.log), begins(s.Epoch+1))}, Results: s.Results, Jobs: make([]impl.Job, 40), Seats: make([]impl.Seat, 8)}
		}
		up := impl.BossRise(down, p)
		checkBoss(t, c.what, up, want)
		checkValid(t, c.what, up, p, true)
	}
	// One that is Up falls with MaxLog entries, and does not rise again.
	for _, done := range []int{10, 11, 40} {
		p, b := plainPlan(40), fullBoss(done, 5)
		down := impl.BossFall(b, p, 5)
		checkBoss(t, "a full log", impl.BossRise(down, p), down)
	}
	p := plainPlan(40)
	if b := impl.BossRise(impl.BossFall(fullBoss(11, 5), p, 4), p); !b.Up || b.Epoch != 300 || b.Results[9] == "" || b.Results[10] != "" {
		t.Errorf("a log with one entry lost: %+v", b)
	}
}

func resultsIn(epoch, n int) []string {
	var out []string
	for task := range n {
		out = append(out, gives(epoch, task, texts(40)[task]))
	}
	return out
}

// A life is a coordinator led on by chance from an empty log, with what has come of it.
type life struct {
	t      *testing.T
	r      *rand.Rand
	p      impl.Plan
	b      impl.Boss
	leases map[int]int
	rises  int
	thanks int
}

// message is mostly one that fits to where the coordinator is, from crews that work at what they are handed or have fallen behind.
func (l *life) message() impl.Message {
	m := impl.Message{From: 1 + l.r.Intn(l.b.Workers+1)%8, Epoch: 1 + l.r.Intn(4)}
	switch l.r.Intn(7) {
	case 0, 1:
		m.Kind = impl.MsgHere
		return m
	case 2:
		m.Kind = impl.MsgBeat
	default:
		m.Kind = impl.MsgResult
		m.Task = l.r.Intn(min(len(l.p.Tasks)+1, 40))
		m.Text = texts(40)[m.Task]
		if l.r.Intn(20) == 0 {
			m.Text = "another!"
		}
	}
	m.Lease = 1 + l.r.Intn(30) + 1000000*l.r.Intn(4)
	if l.b.Up && l.r.Intn(2) == 0 {
		task := l.r.Intn(len(l.b.Jobs))
		if job := l.b.Jobs[task]; job.Lease != 0 {
			m.Lease, m.From = job.Lease, job.Worker
			if m.Kind == impl.MsgResult {
				m.Task, m.Text = task, texts(40)[task]
			}
		}
	}
	if l.r.Intn(20) == 0 {
		m.Epoch = 0
	}
	return m
}

func (l *life) tick() {
	before := l.b
	led := checkTick(l.t, before, l.p)
	l.b = led.Boss
	owed := before.Owed
	for _, m := range led.Out {
		switch m.Kind {
		case impl.MsgOffer:
			if _, met := l.leases[m.Lease]; met {
				l.t.Fatalf("lease %d is handed out twice", m.Lease)
			}
			l.leases[m.Lease] = m.Task
		case impl.MsgThanks:
			// P8: thanks come in the order in which they are owed, each for a task that is in the safe part of the log.
			o := owed[0]
			owed = owed[1:]
			if m.To != o.Worker || m.Lease != o.Lease || replayWanted(l.p, l.b.Log.Safe).Results[o.Task] == "" {
				l.t.Fatalf("%+v owed, %+v sent, by %+v", o, m, l.b)
			}
			l.thanks++
		}
	}
}

func (l *life) take() {
	m := l.message()
	want := l.b
	if m.Epoch > 0 {
		want = bossTakeWanted(l.b, l.p, m)
	}
	l.b = checkTakes(l.t, l.b, l.p, m, want)
}

// fallAndRise asks for P7: what is there again is what a beginning of the log says, with all of its safe part.
func (l *life) fallAndRise() {
	safe, all := copyOf(l.b.Log.Safe), append(copyOf(l.b.Log.Safe), l.b.Log.Loose...)
	keep := l.r.Intn(5) - 1
	down := impl.BossFall(l.b, l.p, keep)
	n := len(down.Log.Safe)
	if down.Up || n != min(len(all), len(safe)+max(keep, 0)) || !reflect.DeepEqual(down.Log.Safe, all[:n]) {
		l.t.Fatalf("a fall with %d of %+v: %+v", keep, l.b, down)
	}
	checkValid(l.t, "behind a fall", down, l.p, true)
	for range l.r.Intn(4) {
		down = checkTick(l.t, down, l.p).Boss
	}
	up := impl.BossRise(down, l.p)
	checkValid(l.t, "behind a rise", up, l.p, true)
	l.b = up
	story := replayWanted(l.p, all[:n])
	if rises := n < 310 && story.Epoch < 300; !rises {
		checkBoss(l.t, "no rise", up, down)
		return
	}
	l.rises++
	if up.Epoch != story.Epoch+1 || !reflect.DeepEqual(up.Results, story.Results) || len(up.Log.Loose) != 0 || len(up.Log.Safe) != n+1 {
		l.t.Fatalf("a rise: %+v", up)
	}
}

// TestCoordinatorsLives leads coordinators through long lives of chance, and asks at each step for P6, P7 and P8.
func TestCoordinatorsLives(t *testing.T) {
	r := rand.New(rand.NewSource(9))
	rises, leases, thanks, done := 0, 0, 0, 0
	for i := range 60 {
		l := &life{t: t, r: r, p: randomPlan(r), leases: map[int]int{}}
		l.b = impl.BossRise(impl.Boss{Workers: 1 + r.Intn(8)}, l.p)
		// Some lives are of many falls, to come to the limits of the log and of the epochs.
		often := []int{200, 200, 2}[i%3]
		for range 1200 {
			switch n := r.Intn(often * 2); {
			case n == 0:
				l.fallAndRise()
			case n%2 == 0:
				l.tick()
			default:
				l.take()
			}
		}
		rises, leases, thanks = rises+l.rises, leases+len(l.leases), thanks+l.thanks
		for _, text := range l.b.Results {
			if text != "" {
				done++
			}
		}
	}
	if rises < 1000 || leases < 1000 || thanks < 1000 || done < 100 {
		t.Errorf("only %d rises, %d leases, %d thanks, %d results", rises, leases, thanks, done)
	}
}

// listsOf are the addresses of all that the lists of an answer hold, room included, as often as they stand in one.
func listsOf(l impl.Led) map[any]int {
	at := map[any]int{}
	add(at, l.Boss.Log.Safe)
	add(at, l.Boss.Log.Loose)
	add(at, l.Boss.Results)
	add(at, l.Boss.Jobs)
	add(at, l.Boss.Seats)
	add(at, l.Boss.Owed)
	add(at, l.Out)
	for _, m := range l.Out {
		add(at, m.Inputs)
	}
	return at
}

func add[T any](at map[any]int, list []T) {
	list = list[:cap(list)]
	for i := range list {
		at[&list[i]]++
	}
}

// roomy has room behind each list, also behind the empty ones.
func roomy(b impl.Boss) impl.Boss {
	b.Log = impl.Log{Safe: append(b.Log.Safe, "behind", "behind")[:len(b.Log.Safe)], Loose: append(b.Log.Loose, "behind", "behind")[:len(b.Log.Loose)]}
	b.Results = append(b.Results, "behind", "behind")[:len(b.Results)]
	b.Jobs = append(b.Jobs, impl.Job{Lease: -9}, impl.Job{})[:len(b.Jobs)]
	b.Seats = append(b.Seats, impl.Seat{Epoch: -9}, impl.Seat{})[:len(b.Seats)]
	b.Owed = append(b.Owed, impl.Owed{Task: -9}, impl.Owed{})[:len(b.Owed)]
	return b
}

// whole is a coordinator with its lists up to the end of their room.
func whole(b impl.Boss) impl.Boss {
	b.Log = impl.Log{Safe: b.Log.Safe[:cap(b.Log.Safe)], Loose: b.Log.Loose[:cap(b.Log.Loose)]}
	b.Results, b.Jobs, b.Seats, b.Owed = b.Results[:cap(b.Results)], b.Jobs[:cap(b.Jobs)], b.Seats[:cap(b.Seats)], b.Owed[:cap(b.Owed)]
	return b
}

// TestCoordinatorsAreNewMemory: nothing is written into an argument or behind its end, and no memory of an answer is met twice, in it or in an argument.
func TestCoordinatorsAreNewMemory(t *testing.T) {
	p := crewPlan()
	acts := map[string]func(b impl.Boss) impl.Led{
		"tick": func(b impl.Boss) impl.Led { return impl.BossTick(b, p) },
		"fall": func(b impl.Boss) impl.Led { return impl.Led{Boss: impl.BossFall(b, p, 1)} },
		"drop": func(b impl.Boss) impl.Led { return impl.Led{Boss: impl.BossFall(b, p, 0)} },
		"rise": func(b impl.Boss) impl.Led { return impl.Led{Boss: impl.BossRise(b, p)} },
		"none": func(b impl.Boss) impl.Led { return impl.BossTake(b, p, impl.Message{}) },
	}
	for _, m := range toBoss() {
		acts["take "+string(rune('0'+m.Kind))+string(rune('0'+m.Task))] = func(b impl.Boss) impl.Led { return impl.BossTake(b, p, m) }
	}
	for name, b := range map[string]impl.Boss{
		"down":   downBoss(),
		"empty":  {Workers: 3},
		"up":     upBoss(),
		"flush":  bossWith(upBoss(), func(b *impl.Boss) { b.Since, b.Jobs[2] = 1, impl.Job{} }),
		"end":    bossWith(upBoss(), func(b *impl.Boss) { b.Now, b.Jobs = 1000000, make([]impl.Job, 10) }),
		"nobody": bossWith(upBoss(), func(b *impl.Boss) { b.Owed, b.Log.Safe, b.Log.Loose = nil, append(b.Log.Safe, b.Log.Loose...), nil }),
	} {
		for what, act := range acts {
			arg := roomy(cloneBoss(b))
			before := cloneBoss(whole(arg))
			got := act(arg)
			if !reflect.DeepEqual(cloneBoss(whole(arg)), before) || !reflect.DeepEqual(p, crewPlan()) {
				t.Errorf("%s of %s: an argument was changed", what, name)
			}
			given := listsOf(impl.Led{Boss: arg})
			for at, n := range listsOf(got) {
				if n > 1 || given[at] > 0 {
					t.Errorf("%s of %s: memory is shared: %T", what, name, at)
				}
			}
			if got.Boss.Workers == 0 {
				t.Errorf("%s of %s gives nothing", what, name)
			}
		}
	}
}
