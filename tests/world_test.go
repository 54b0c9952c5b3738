package tests

import (
	"math"
	"reflect"
	"runtime"
	"strconv"
	"strings"
	"testing"
	"time"

	"loop.example/kilncrew/impl"
)

// midWorld is in the midst of crewPlan: upBoss with a worker in each state, and parcels of all sorts in flight.
func midWorld() impl.World {
	w := impl.World{Plan: crewPlan(), Key: "key", Boss: upBoss()}
	for i, worker := range []impl.Worker{freeWorker(), busyWorker(), toldWorker(), downWorker()} {
		worker.Number = i + 1
		w.Workers = append(w.Workers, worker)
	}
	for _, m := range midMessages() {
		w.Flight = append(w.Flight, onItsWay(m, "key"))
	}
	bent := onItsWay(toBoss()[0], "key")
	bent.Bytes = "bent"
	w.Flight = append(w.Flight, bent, impl.Parcel{To: 2}, impl.Parcel{To: 8, Sent: "never a message", Bytes: "nor now"})
	return w
}

// midMessages change something in midWorld, but for those to workers that are down or not there.
func midMessages() []impl.Message {
	out := toBoss()
	for n := 1; n < 9; n++ {
		out = append(out,
			impl.Message{Kind: impl.MsgOffer, To: n, Epoch: 2, Lease: 1000000 + n, Task: 1, Inputs: texts(1)},
			impl.Message{Kind: impl.MsgThanks, To: n, Epoch: 2, Lease: 700})
	}
	return out
}

// cloneWorld gives an empty list as nil, so that clones can be held against each other.
func cloneWorld(w impl.World) impl.World {
	w.Plan, w.Boss, w.Flight = clonePlan(w.Plan), cloneBoss(w.Boss), copyOf(w.Flight)
	var crew []impl.Worker
	for _, worker := range w.Workers {
		crew = append(crew, cloneWorker(worker))
	}
	w.Workers = crew
	return w
}

func worldWith(w impl.World, change func(w *impl.World)) impl.World {
	w = cloneWorld(w)
	change(&w)
	return w
}

func checkWorld(t *testing.T, what string, got, want impl.World) {
	t.Helper()
	if !reflect.DeepEqual(cloneWorld(got), cloneWorld(want)) {
		t.Fatalf("%s:\n got %+.3000v\nwant %+.3000v", what, got, want)
	}
}

func checkValidWorld(t *testing.T, what string, w impl.World, want bool) {
	t.Helper()
	if got := impl.ValidWorld(w); got != want {
		t.Errorf("%s: %v: %+.1000v", what, got, w)
	}
}

func postWanted(flight []impl.Parcel, out []impl.Message, key string) []impl.Parcel {
	for _, m := range out {
		if len(flight) < 2000 {
			flight = append(flight, onItsWay(m, key))
		}
	}
	return flight
}

// doWanted is what an event makes of a valid world, as the document says it.
func doWanted(w impl.World, e impl.Event) impl.World {
	w = cloneWorld(w)
	switch e.Kind {
	case 1:
		return eachTicksWanted(w)
	case 2:
		return bringWanted(w, e.A)
	case 3:
		w.Flight = doubleWanted(w.Flight, e.A)
	case 4:
		w.Flight = loseWanted(w.Flight, e.A)
	case 5:
		w.Flight = bendWanted(w.Flight, e.A, e.B, e.C)
	case 6:
		return fallWanted(w, e.A, e.B)
	case 7:
		return riseWanted(w, e.A)
	}
	return w
}

func eachTicksWanted(w impl.World) impl.World {
	if w.Boss.Now == 1000000 {
		return w
	}
	led := bossTickWanted(w.Boss, w.Plan)
	w.Boss = led.Boss
	out := led.Out
	for i := range w.Workers {
		acted := tickWanted(w.Workers[i], w.Plan)
		w.Workers[i] = acted.Worker
		out = append(out, acted.Out...)
	}
	w.Flight = postWanted(w.Flight, out, w.Key)
	return w
}

func bringWanted(w impl.World, k int) impl.World {
	if k < 0 || k >= len(w.Flight) {
		return w
	}
	s := w.Flight[k]
	w.Flight = loseWanted(w.Flight, k)
	m, ok := impl.ReadMessage(s.Bytes, w.Key)
	if !ok {
		return w
	}
	if s.Bytes != s.Sent && w.Forged == "" {
		w.Forged = s.Bytes
	}
	if s.To == 0 {
		w.Boss = bossTakeWanted(w.Boss, w.Plan, m)
	} else if s.To <= len(w.Workers) {
		w.Workers[s.To-1] = takeWanted(w.Workers[s.To-1], w.Plan, m)
	}
	return w
}

func fallWanted(w impl.World, a, keep int) impl.World {
	switch {
	case a == 0:
		b := w.Boss
		keep = min(max(keep, 0), len(b.Log.Loose))
		w.Boss = impl.Boss{Workers: b.Workers, Now: b.Now, Log: impl.Log{Safe: append(b.Log.Safe, b.Log.Loose[:keep]...)}}
	case 1 <= a && a <= len(w.Workers):
		w.Workers[a-1] = impl.Worker{Number: a, Epoch: w.Workers[a-1].Epoch}
	}
	return w
}

func riseWanted(w impl.World, a int) impl.World {
	switch {
	case a == 0 && !w.Boss.Up:
		story := replayWanted(w.Plan, w.Boss.Log.Safe)
		if len(w.Boss.Log.Safe) < 310 && story.Epoch < 300 {
			b := &w.Boss
			b.Up, b.Epoch, b.Results = true, story.Epoch+1, story.Results
			b.Log.Safe = append(b.Log.Safe, begins(b.Epoch))
			b.Jobs, b.Seats = make([]impl.Job, len(w.Plan.Tasks)), make([]impl.Seat, b.Workers)
		}
	case 1 <= a && a <= len(w.Workers) && !w.Workers[a-1].Up && w.Workers[a-1].Epoch < 300:
		w.Workers[a-1] = impl.Worker{Number: a, Epoch: w.Workers[a-1].Epoch + 1, Up: true, Since: 3}
	}
	return w
}

// checkDo asks for an event as the document says it, and for P13 of it.
func checkDo(t *testing.T, w impl.World, e impl.Event) impl.World {
	t.Helper()
	got := impl.Do(w, e)
	checkWorld(t, "an event", got, doWanted(w, e))
	if !impl.ValidWorld(got) {
		t.Fatalf("%+v leads to a world that is not valid: %+.3000v", e, got)
	}
	return got
}

func TestWorldsAreTheDocuments(t *testing.T) {
	got := []int{impl.MaxCalm, impl.EvTick, impl.EvBring, impl.EvDouble, impl.EvLose, impl.EvBend, impl.EvFall, impl.EvRise}
	if !reflect.DeepEqual(got, []int{2000, 1, 2, 3, 4, 5, 6, 7}) {
		t.Errorf("%v", got)
	}
}

func TestNewWorlds(t *testing.T) {
	for _, p := range []impl.Plan{crewPlan(), plainPlan(1), plainPlan(40), standing(3, 2, 0, 1)} {
		for _, key := range keys() {
			for workers := 1; workers <= 8; workers++ {
				n := len(p.Tasks)
				want := impl.World{Plan: p, Key: key}
				want.Boss = impl.Boss{Workers: workers, Up: true, Epoch: 1, Log: impl.Log{Safe: epochs(1)}, Results: make([]string, n), Jobs: make([]impl.Job, n), Seats: make([]impl.Seat, workers)}
				for number := 1; number <= workers; number++ {
					want.Workers = append(want.Workers, impl.Worker{Number: number, Epoch: 1, Up: true, Since: 3})
				}
				got := impl.NewWorld(p, key, workers)
				checkWorld(t, "a new world", got, want)
				checkValidWorld(t, "a new world", got, true)
				if impl.Finished(got) || impl.Wrong(got) != -1 {
					t.Errorf("a new world: %v, %d", impl.Finished(got), impl.Wrong(got))
				}
			}
		}
	}
}

func TestNoNewWorlds(t *testing.T) {
	for _, workers := range []int{math.MinInt, -1, 0, 9, 10, math.MaxInt} {
		checkWorld(t, "so many workers", impl.NewWorld(crewPlan(), "key", workers), impl.World{})
	}
	for _, size := range []int{31, 32, 5000} {
		checkWorld(t, "a long key", impl.NewWorld(crewPlan(), strings.Repeat("k", size), 1), impl.World{})
	}
	for _, plans := range wrongPlans() {
		for _, p := range plans {
			checkWorld(t, "a wrong plan", impl.NewWorld(p, "key", 1), impl.World{})
		}
	}
}

// wrongWorlds are worlds that are not valid.
func wrongWorlds() map[string]impl.World {
	mid := func(change func(w *impl.World)) impl.World { return worldWith(midWorld(), change) }
	out := map[string]impl.World{
		"nothing":                    {},
		"only a plan":                {Plan: crewPlan()},
		"a key of 31 bytes":          mid(func(w *impl.World) { w.Key = strings.Repeat("k", 31) }),
		"no workers":                 mid(func(w *impl.World) { w.Workers = nil }),
		"no workers at all":          mid(func(w *impl.World) { w.Workers, w.Boss = nil, impl.Boss{} }),
		"one worker too few":         mid(func(w *impl.World) { w.Workers = w.Workers[:3] }),
		"one worker too many":        mid(func(w *impl.World) { w.Workers = crewOf(5) }),
		"a coordinator of fewer":     mid(func(w *impl.World) { w.Boss = impl.Boss{Workers: 3} }),
		"a coordinator of more":      mid(func(w *impl.World) { w.Boss = impl.Boss{Workers: 5} }),
		"nine workers":               mid(func(w *impl.World) { w.Workers, w.Boss = crewOf(9), impl.Boss{Workers: 9} }),
		"no number":                  mid(func(w *impl.World) { w.Workers[0].Number = 0 }),
		"numbers turned around":      mid(func(w *impl.World) { w.Workers[0], w.Workers[1] = w.Workers[1], w.Workers[0] }),
		"a number twice":             mid(func(w *impl.World) { w.Workers[3].Number = 3 }),
		"numbers from 2 on":          mid(func(w *impl.World) { w.Workers = crewOf(5)[1:] }),
		"2001 parcels":               mid(func(w *impl.World) { w.Flight = make([]impl.Parcel, 2001) }),
		"a parcel to nobody":         mid(func(w *impl.World) { w.Flight[0].To = -1 }),
		"a parcel to a ninth":        mid(func(w *impl.World) { w.Flight[0].To = 9 }),
		"a last parcel to a ninth":   mid(func(w *impl.World) { w.Flight[len(w.Flight)-1].To = 9 }),
		"501 bytes sent":             mid(func(w *impl.World) { w.Flight[1].Sent = strings.Repeat("b", 501) }),
		"501 bytes":                  mid(func(w *impl.World) { w.Flight[1].Bytes = strings.Repeat("b", 501) }),
		"a job of a worker too many": mid(func(w *impl.World) { w.Boss.Jobs[2].Worker = 5 }),
	}
	for what, b := range wrongBosses() {
		out["a coordinator with "+what] = mid(func(w *impl.World) { w.Boss = b })
	}
	for code, plans := range wrongPlans() {
		for i, p := range plans {
			what := "wrong plan " + strconv.Itoa(i) + " of code " + strconv.Itoa(code)
			out[what] = mid(func(w *impl.World) { w.Plan = p })
			out[what+", down"] = mid(func(w *impl.World) { w.Plan, w.Boss = p, impl.Boss{Workers: 4} })
		}
	}
	out["another plan"] = mid(func(w *impl.World) { w.Plan = plainPlan(11) })
	return out
}

// crewOf are n free workers.
func crewOf(n int) []impl.Worker {
	var out []impl.Worker
	for i := range n {
		out = append(out, impl.Worker{Number: i + 1, Epoch: 1, Up: true})
	}
	return out
}

func checkNoWorld(t *testing.T, what string, w impl.World) {
	t.Helper()
	checkValidWorld(t, what, w, false)
	for kind := -1; kind < 9; kind++ {
		for _, a := range []int{-1, 0, 1} {
			checkWorld(t, "an event, "+what, impl.Do(w, impl.Event{Kind: kind, A: a, B: 1, C: 1}), impl.World{})
		}
	}
	for _, rounds := range []int{-1, 0, 1, 2000, 2001} {
		checkWorld(t, "Calm, "+what, impl.Calm(w, rounds), impl.World{})
	}
	if impl.Finished(w) || impl.Wrong(w) != -1 {
		t.Errorf("%s: %v, %d", what, impl.Finished(w), impl.Wrong(w))
	}
}

func TestWrongWorlds(t *testing.T) {
	for what, w := range wrongWorlds() {
		checkNoWorld(t, what, w)
	}
	for _, worker := range wrongWorkers() {
		for place := range 4 {
			w := worldWith(midWorld(), func(w *impl.World) {
				// A wrong worker that is right but for its place would not be one.
				if worker.Number == 2 {
					worker.Number = place + 1
				}
				w.Workers[place] = worker
			})
			checkNoWorld(t, "a wrong worker", w)
		}
	}
	done := impl.Calm(impl.NewWorld(plainPlan(2), "key", 1), 100)
	if !impl.Finished(done) {
		t.Fatalf("%+v", done.Boss)
	}
	done.Flight = make([]impl.Parcel, 2001)
	checkNoWorld(t, "finished but for its parcels", done)
	lie := worldWith(midWorld(), func(w *impl.World) { w.Flight[0].To = 9 })
	checkNoWorld(t, "wrong in two ways", lie)
}

func TestWorldsAtTheirLimits(t *testing.T) {
	mid := func(change func(w *impl.World)) impl.World { return worldWith(midWorld(), change) }
	for what, w := range map[string]impl.World{
		"in the midst":      midWorld(),
		"no key":            mid(func(w *impl.World) { w.Key = "" }),
		"a key of 30 bytes": mid(func(w *impl.World) { w.Key = strings.Repeat("\xff", 30) }),
		"one worker":        mid(func(w *impl.World) { w.Workers, w.Boss = crewOf(1), impl.Boss{Workers: 1} }),
		"eight workers":     mid(func(w *impl.World) { w.Workers, w.Boss = crewOf(8), impl.Boss{Workers: 8} }),
		"no parcels":        mid(func(w *impl.World) { w.Flight = nil }),
		"1999 parcels":      mid(func(w *impl.World) { w.Flight = make([]impl.Parcel, 1999) }),
		"2000 parcels":      mid(func(w *impl.World) { w.Flight = make([]impl.Parcel, 2000) }),
		"to the eighth":     mid(func(w *impl.World) { w.Flight[0].To = 8 }),
		"500 bytes sent":    mid(func(w *impl.World) { w.Flight[0].Sent = strings.Repeat("b", 500) }),
		"500 bytes":         mid(func(w *impl.World) { w.Flight[0].Bytes = strings.Repeat("b", 500) }),
		"forged":            mid(func(w *impl.World) { w.Forged = "f" }),
		"much forged":       mid(func(w *impl.World) { w.Forged = strings.Repeat("f", 5000) }),
		"all down":          mid(func(w *impl.World) { w.Workers, w.Boss = []impl.Worker{{Number: 1, Epoch: 1}}, impl.Boss{Workers: 1} }),
		"the last worker":   mid(func(w *impl.World) { w.Workers[3].Epoch = 300 }),
		"the end of time":   mid(func(w *impl.World) { w.Boss = impl.Boss{Workers: 4, Now: 1000000} }),
	} {
		checkValidWorld(t, what, w, true)
		for kind := 0; kind < 9; kind++ {
			for _, a := range []int{0, 1, 4, 5} {
				checkDo(t, w, impl.Event{Kind: kind, A: a, B: 1, C: 1})
			}
		}
	}
}

// TestEvents does each kind of event with each A, B and C that could make a difference.
func TestEvents(t *testing.T) {
	down := worldWith(midWorld(), func(w *impl.World) { w.Boss = downBoss() })
	short := worldWith(midWorld(), func(w *impl.World) { w.Flight = w.Flight[:1] })
	for _, w := range []impl.World{midWorld(), down, short, worldWith(short, func(w *impl.World) { w.Flight = nil })} {
		for kind := -1; kind < 10; kind++ {
			for a := -2; a < len(w.Flight)+3; a++ {
				checkDo(t, w, impl.Event{Kind: kind, A: a})
			}
			for _, a := range places(len(w.Flight)) {
				for _, b := range []int{math.MinInt, -1, 0, 1, 2, 3, 22, 23, 91, 500, math.MaxInt} {
					for _, c := range []int{math.MinInt, -1, 0, 1, 255, 256, 511, math.MaxInt} {
						checkDo(t, w, impl.Event{Kind: kind, A: a, B: b, C: c})
					}
				}
			}
		}
	}
}

// TestEventsThatFindNothing: each leaves the world as it is.
func TestEventsThatFindNothing(t *testing.T) {
	mid := midWorld()
	n := len(mid.Flight)
	down := worldWith(mid, func(w *impl.World) { w.Boss = downBoss() })
	full := worldWith(mid, func(w *impl.World) { w.Flight = parcels(2000) })
	late := worldWith(mid, func(w *impl.World) { w.Boss.Now, w.Boss.Jobs = 1000000, make([]impl.Job, 10) })
	lateDown := worldWith(down, func(w *impl.World) { w.Boss.Now = 1000000 })
	old := worldWith(down, func(w *impl.World) {
		w.Workers[3].Epoch, w.Boss.Log.Safe = 300, epochs(300)
	})
	long := worldWith(old, func(w *impl.World) { w.Plan, w.Boss.Log.Safe = plainPlan(40), fullLog(20) })
	type find struct {
		what  string
		w     impl.World
		event impl.Event
	}
	finds := []find{
		{"a tick at the end of time", late, impl.Event{Kind: 1}},
		{"a tick at the end of time, down", lateDown, impl.Event{Kind: 1}},
		{"a double with no room", full, impl.Event{Kind: 3, A: 5}},
		{"a bend of no place", mid, impl.Event{Kind: 5, A: 0, B: 19, C: 1}},
		{"a bend below all places", mid, impl.Event{Kind: 5, A: 0, B: -1, C: 1}},
		{"a bend by less than nothing", mid, impl.Event{Kind: 5, A: 0, B: 0, C: -1}},
		{"a bend by nothing", mid, impl.Event{Kind: 5, A: 0, B: 0, C: 256}},
		{"a fall of one that is down", mid, impl.Event{Kind: 6, A: 4}},
		{"a fall of a coordinator that is down", down, impl.Event{Kind: 6, A: 0, B: 9}},
		{"a rise of one that is Up", mid, impl.Event{Kind: 7, A: 2}},
		{"a rise of a coordinator that is Up", mid, impl.Event{Kind: 7, A: 0}},
		{"a rise behind the last epoch", old, impl.Event{Kind: 7, A: 4}},
		{"a rise of the coordinator behind the last epoch", old, impl.Event{Kind: 7, A: 0}},
		{"a rise with a full log", long, impl.Event{Kind: 7, A: 0}},
	}
	for _, kind := range []int{math.MinInt, -1, 0, 8, 9, 257, 258, 1<<32 + 1, math.MaxInt} {
		finds = append(finds, find{"no kind", mid, impl.Event{Kind: kind, A: 1, B: 1, C: 1}})
	}
	for _, k := range []int{math.MinInt, -n, -1, n, n + 1, math.MaxInt} {
		for kind := 2; kind < 6; kind++ {
			finds = append(finds, find{"no parcel", mid, impl.Event{Kind: kind, A: k, B: 1, C: 1}})
		}
	}
	for _, number := range []int{math.MinInt, -4, -1, 5, 8, 9, math.MaxInt} {
		for kind := 6; kind < 8; kind++ {
			finds = append(finds, find{"no worker", mid, impl.Event{Kind: kind, A: number, B: 1}})
			finds = append(finds, find{"no worker, down", down, impl.Event{Kind: kind, A: number, B: 1}})
		}
	}
	for _, f := range finds {
		checkValidWorld(t, f.what, f.w, true)
		checkWorld(t, f.what, impl.Do(f.w, f.event), f.w)
	}
}

// TestTicksArePosted: first what the coordinator sends, then what the workers tell, in their order, as long as there is room.
func TestTicksArePosted(t *testing.T) {
	w := worldWith(midWorld(), func(w *impl.World) {
		w.Flight, w.Boss.Since = nil, 1
		w.Workers = []impl.Worker{
			{Number: 1, Epoch: 5, Up: true, Since: 3},
			{Number: 2, Epoch: 6, Up: true, State: impl.WorkBusy, Lease: 9, Task: 3, Cost: 7, Left: 1},
			{Number: 3, Epoch: 7, Up: true, State: impl.WorkTold, Lease: 10, Task: 1, Text: "told txt", Since: 3},
			{Number: 4, Epoch: 8, Up: true, State: impl.WorkBusy, Lease: 11, Task: 4, Cost: 7, Left: 2, Since: 3},
		}
	})
	var want []impl.Parcel
	for _, m := range []impl.Message{
		{Kind: impl.MsgOffer, To: 2, Epoch: 2, Lease: 1000008, Task: 5},
		{Kind: impl.MsgOffer, To: 4, Epoch: 2, Lease: 1000009, Task: 6},
		{Kind: impl.MsgThanks, To: 2, Epoch: 2, Lease: 1000001},
		{Kind: impl.MsgThanks, To: 4, Epoch: 2, Lease: 9},
		{Kind: impl.MsgHere, From: 1, Epoch: 5},
		{Kind: impl.MsgResult, From: 2, Epoch: 6, Lease: 9, Task: 3, Text: valueOf("t3")},
		{Kind: impl.MsgResult, From: 3, Epoch: 7, Lease: 10, Task: 1, Text: "told txt"},
		{Kind: impl.MsgBeat, From: 4, Epoch: 8, Lease: 11},
	} {
		want = append(want, onItsWay(m, "key"))
	}
	got := checkDo(t, w, impl.Event{Kind: impl.EvTick, A: 7, B: 7, C: 7})
	if !reflect.DeepEqual(got.Flight, want) || got.Boss.Now != 51 {
		t.Fatalf("%+v", got.Flight)
	}
	for _, there := range []int{1, 1991, 1992, 1993, 1997, 1999, 2000} {
		some := parcels(there)
		got := checkDo(t, worldWith(w, func(w *impl.World) { w.Flight = some }), impl.Event{Kind: impl.EvTick})
		if !reflect.DeepEqual(got.Flight, append(some, want[:min(8, 2000-there)]...)) {
			t.Errorf("behind %d parcels: %d", there, len(got.Flight))
		}
		// What found no room is gone: the senders know nothing of it.
		if got.Boss.Jobs[6].Lease != 1000009 || got.Workers[3].Since != 0 {
			t.Errorf("behind %d parcels: %+v", there, got)
		}
	}
}

// TestTimeIsOver: at the end of time neither the coordinator nor the workers tick, whether it is Up or not.
func TestTimeIsOver(t *testing.T) {
	for _, up := range []bool{true, false} {
		w := worldWith(midWorld(), func(w *impl.World) {
			w.Boss.Now, w.Boss.Jobs = 999998, make([]impl.Job, 10)
			if !up {
				w.Boss = impl.Boss{Workers: 4, Now: 999998}
			}
		})
		tick := impl.Event{Kind: impl.EvTick}
		one := checkDo(t, w, tick)
		two := checkDo(t, one, tick)
		if one.Workers[1].Left != 14 || two.Workers[1].Left != 13 || two.Boss.Now != 1000000 {
			t.Errorf("%+v", two)
		}
		checkWorld(t, "a tick at the end of time", impl.Do(two, tick), two)
		// What else happens does so still.
		brought := checkDo(t, two, impl.Event{Kind: impl.EvBring})
		if len(brought.Flight) != len(two.Flight)-1 || up && !brought.Boss.Seats[0].Free {
			t.Errorf("%+v", brought)
		}
	}
}

// TestBringing brings each parcel of midWorld alone, from wherever it stands in the flight.
func TestBringing(t *testing.T) {
	mid := midWorld()
	for k, s := range mid.Flight {
		got := checkDo(t, mid, impl.Event{Kind: impl.EvBring, A: k, B: 3, C: 3})
		if !reflect.DeepEqual(got.Flight, loseWanted(mid.Flight, k)) || got.Forged != "" {
			t.Errorf("parcel %d: %+v", k, got.Flight)
		}
		got.Flight = mid.Flight
		_, read := impl.ReadMessage(s.Bytes, "key")
		// To 4 is one that is down, above are those that are not there; of the offers and thanks each changes the one that can take it.
		changes := read && (s.To == 0 || k == 5 || k == 7 || k == 9 || k == 10)
		if reflect.DeepEqual(cloneWorld(got), cloneWorld(mid)) == changes {
			t.Errorf("parcel %d to %d: %+v", k, s.To, got)
		}
	}
	for what, s := range map[string]impl.Parcel{
		"a message to another worker":  {To: 1, Bytes: onItsWay(midMessages()[7], "key").Bytes},
		"an offer to the coordinator":  {To: 0, Bytes: onItsWay(midMessages()[5], "key").Bytes},
		"thanks to the coordinator":    {To: 0, Bytes: onItsWay(midMessages()[10], "key").Bytes},
		"a result to a worker":         {To: 1, Bytes: onItsWay(toBoss()[2], "key").Bytes},
		"a result to one not there":    {To: 8, Bytes: onItsWay(toBoss()[2], "key").Bytes},
		"of a worker that there isn't": {To: 0, Bytes: onItsWay(impl.Message{Kind: impl.MsgHere, From: 5, Epoch: 1}, "key").Bytes},
	} {
		s.Sent = s.Bytes
		w := worldWith(mid, func(w *impl.World) { w.Flight = []impl.Parcel{s} })
		checkWorld(t, what, impl.Do(w, impl.Event{Kind: impl.EvBring}), worldWith(mid, func(w *impl.World) { w.Flight = nil }))
	}
}

// TestBringingWhatIsForged: the first forged parcel that is brought is shown, whomever it is for, and is taken as any other.
func TestBringingWhatIsForged(t *testing.T) {
	mid := midWorld()
	bring := impl.Event{Kind: impl.EvBring}
	for k, s := range mid.Flight[:len(midMessages())] {
		lie := impl.Parcel{To: s.To, Sent: "something else", Bytes: s.Bytes}
		w := worldWith(mid, func(w *impl.World) { w.Flight = []impl.Parcel{lie, mid.Flight[0], lie} })
		got := checkDo(t, w, bring)
		if got.Forged != lie.Bytes {
			t.Errorf("parcel %d: %q", k, got.Forged)
		}
		honest := impl.Do(mid, impl.Event{Kind: impl.EvBring, A: k})
		honest.Flight, honest.Forged = got.Flight, got.Forged
		checkWorld(t, "forged or not", got, honest)
		before := worldWith(w, func(w *impl.World) { w.Forged = "another" })
		if after := checkDo(t, before, bring); after.Forged != "another" {
			t.Errorf("parcel %d, forged before: %q", k, after.Forged)
		}
		if after := checkDo(t, w, impl.Event{Kind: impl.EvBring, A: 1}); after.Forged != "" {
			t.Errorf("parcel %d, not brought yet: %q", k, after.Forged)
		}
		for _, kind := range []int{impl.EvTick, impl.EvDouble, impl.EvLose, impl.EvBend, impl.EvFall, impl.EvRise} {
			if after := checkDo(t, w, impl.Event{Kind: kind}); after.Forged != "" {
				t.Errorf("parcel %d, event %d: %q", k, kind, after.Forged)
			}
		}
		lie.Bytes = lie.Bytes[:len(lie.Bytes)-1]
		w.Flight = []impl.Parcel{lie}
		if after := checkDo(t, w, bring); after.Forged != "" {
			t.Errorf("parcel %d with a wrong seal: %q", k, after.Forged)
		}
	}
}

// bendInto is the world in which bends have made other Bytes of as many of parcel k, by events alone.
func bendInto(t *testing.T, w impl.World, k int, bytes string) impl.World {
	t.Helper()
	for place := range len(bytes) {
		mask := int(w.Flight[k].Bytes[place] ^ bytes[place])
		w = checkDo(t, w, impl.Event{Kind: impl.EvBend, A: k, B: place, C: mask})
	}
	if w.Flight[k].Bytes != bytes {
		t.Fatalf("%q, want %q", w.Flight[k].Bytes, bytes)
	}
	return w
}

// TestLies: what is bent into a message with a right seal is shown, and Wrong names the task, in Results and in the log alone.
func TestLies(t *testing.T) {
	p := crewPlan()
	for _, task := range []int{0, 3, 9} {
		w := impl.NewWorld(p, "key", 2)
		w = checkDo(t, w, impl.Event{Kind: impl.EvTick})
		here := w.Flight[0]
		// What is told of being free is too short to be bent into a result, so a result must be on its way.
		for len(w.Flight) == 0 || len(w.Flight[0].Bytes) != len(here.Bytes)+8 {
			w = checkDo(t, w, impl.Event{Kind: impl.EvBring})
			if len(w.Flight) == 0 {
				w = checkDo(t, w, impl.Event{Kind: impl.EvTick})
			}
		}
		lie := onItsWay(impl.Message{Kind: impl.MsgResult, From: 1, Epoch: 1, Lease: 1, Task: task, Text: "a lie!!!"}, "key").Bytes
		w = bendInto(t, w, 0, lie)
		if impl.Wrong(w) != -1 || w.Forged != "" {
			t.Fatalf("before it is brought: %d, %q", impl.Wrong(w), w.Forged)
		}
		w = checkDo(t, w, impl.Event{Kind: impl.EvBring})
		if impl.Wrong(w) != task || w.Forged != lie {
			t.Errorf("task %d: %d, %q", task, impl.Wrong(w), w.Forged)
		}
		kept := checkDo(t, w, impl.Event{Kind: impl.EvFall, A: 0, B: 1})
		if impl.Wrong(kept) != task || len(kept.Boss.Results) != 0 {
			t.Errorf("task %d, in the log alone: %d", task, impl.Wrong(kept))
		}
		lost := checkDo(t, w, impl.Event{Kind: impl.EvFall, A: 0, B: 0})
		if impl.Wrong(lost) != -1 || lost.Forged != lie {
			t.Errorf("task %d, lost with the fall: %d, %q", task, impl.Wrong(lost), lost.Forged)
		}
		risen := checkDo(t, kept, impl.Event{Kind: impl.EvRise, A: 0})
		if impl.Wrong(risen) != task {
			t.Errorf("task %d, risen: %d", task, impl.Wrong(risen))
		}
		if end := impl.Calm(risen, 500); !impl.Finished(end) || impl.Wrong(end) != task || end.Forged != lie {
			t.Errorf("task %d at the end: %v, %d, %q", task, impl.Finished(end), impl.Wrong(end), end.Forged)
		}
	}
}

// worldOf has a coordinator with those results, taken in its first epoch, the first of them safe.
func worldOf(p impl.Plan, results []string, safe int) impl.World {
	w := impl.NewWorld(p, "key", 2)
	var entries []string
	for task, text := range results {
		if text != "" {
			entries = append(entries, gives(1, task, text))
		}
	}
	w.Boss.Log = impl.Log{Safe: append(epochs(1), entries[:safe]...), Loose: entries[safe:]}
	w.Boss.Results = results
	return w
}

func TestWrongAndFinished(t *testing.T) {
	p := crewPlan()
	p.Tasks = p.Tasks[:9]
	truth := impl.Truth(p)
	for first := range 10 {
		for second := range 10 {
			results := copyOf(truth)
			want := min(first, second)
			for _, task := range []int{first, second} {
				if task < 9 {
					results[task] = "a lie!!!"
				}
			}
			if want == 9 {
				want = -1
			}
			for _, safe := range []int{0, 4, 9} {
				w := worldOf(p, results, safe)
				checkValidWorld(t, "with results", w, true)
				if !impl.Finished(w) || impl.Wrong(w) != want {
					t.Errorf("lies at %d and %d: %v, %d", first, second, impl.Finished(w), impl.Wrong(w))
				}
				down := impl.Do(w, impl.Event{Kind: impl.EvFall, B: 9})
				if impl.Finished(down) || impl.Wrong(down) != want {
					t.Errorf("lies at %d and %d, down: %v, %d", first, second, impl.Finished(down), impl.Wrong(down))
				}
			}
		}
	}
	for missing := 2; missing < 9; missing++ {
		results := copyOf(truth)
		// Task 8 stands on those in front of it.
		results[missing], results[8] = "", ""
		w := worldOf(p, results, 3)
		checkValidWorld(t, "with a result missing", w, true)
		if impl.Finished(w) || impl.Wrong(w) != -1 {
			t.Errorf("without task %d: %v, %d", missing, impl.Finished(w), impl.Wrong(w))
		}
		results = copyOf(results)
		results[7], results[2] = "a lie!!!", "a lie!!!"
		if w := worldOf(p, results, 3); impl.Finished(w) || impl.Wrong(w) != 2 {
			t.Errorf("without task %d and with lies: %v, %d", missing, impl.Finished(w), impl.Wrong(w))
		}
	}
	// A result must be Truth, not only Value of what the coordinator has for its Deps.
	results := copyOf(truth)
	results[0] = "a lie!!!"
	results[1] = valueOf("t1", results[0])
	if w := worldOf(p, results, 9); impl.Wrong(w) != 0 {
		t.Errorf("%d", impl.Wrong(w))
	}
	results[0] = truth[0]
	if w := worldOf(p, results, 9); impl.Wrong(w) != 1 {
		t.Errorf("%d", impl.Wrong(w))
	}
}

// calmWanted is Calm by events alone.
func calmWanted(w impl.World, rounds int) impl.World {
	for range rounds {
		w = doWanted(w, impl.Event{Kind: 1})
		for range len(w.Flight) {
			w = doWanted(w, impl.Event{Kind: 2})
		}
	}
	return w
}

func checkCalm(t *testing.T, w impl.World, rounds int) impl.World {
	t.Helper()
	got := impl.Calm(w, rounds)
	checkWorld(t, "calm", got, calmWanted(w, min(rounds, 2000)))
	if !impl.ValidWorld(got) {
		t.Fatalf("%d calm rounds lead to a world that is not valid: %+.3000v", rounds, got)
	}
	return got
}

func TestRounds(t *testing.T) {
	down := worldWith(midWorld(), func(w *impl.World) { w.Boss = downBoss() })
	idle := worldWith(midWorld(), func(w *impl.World) {
		w.Workers = []impl.Worker{{Number: 1, Epoch: 1}, {Number: 2, Epoch: 1}, {Number: 3, Epoch: 300}, {Number: 4, Epoch: 1}}
	})
	for _, w := range []impl.World{midWorld(), down, idle, impl.NewWorld(crewPlan(), "", 8), impl.NewWorld(plainPlan(1), "k", 1)} {
		for _, rounds := range []int{math.MinInt, -2000, -2, -1, 0} {
			checkWorld(t, "no rounds", impl.Calm(w, rounds), w)
		}
		for _, rounds := range []int{1, 2, 3, 4, 5, 10, 50} {
			got := checkCalm(t, w, rounds)
			if len(got.Flight) != 0 || got.Boss.Now != w.Boss.Now+rounds {
				t.Errorf("%d rounds: %d in flight, %d", rounds, len(got.Flight), got.Boss.Now)
			}
		}
		most := checkCalm(t, w, 2000)
		if most.Boss.Now != w.Boss.Now+2000 || impl.Calm(w, 1999).Boss.Now != w.Boss.Now+1999 {
			t.Errorf("%d", most.Boss.Now)
		}
		for _, rounds := range []int{2001, 2002, 4000, math.MaxInt} {
			checkWorld(t, "too many rounds", impl.Calm(w, rounds), most)
		}
		for _, ab := range [][2]int{{0, 0}, {0, 1}, {1, 0}, {1, 1}, {2, 3}, {7, 40}, {40, 7}, {0, 2000}, {1, 1999}, {1000, 1000}, {2000, 0}} {
			checkWorld(t, "one calm and another", impl.Calm(impl.Calm(w, ab[0]), ab[1]), impl.Calm(w, ab[0]+ab[1]))
		}
	}
}

// TestCalmAtTheEndOfTime: what is in flight arrives though nothing ticks any more.
func TestCalmAtTheEndOfTime(t *testing.T) {
	for _, up := range []bool{true, false} {
		for _, left := range []int{0, 1, 2, 5, 30} {
			w := worldWith(midWorld(), func(w *impl.World) {
				w.Boss.Now, w.Boss.Jobs = 1000000-left, make([]impl.Job, 10)
				if !up {
					w.Boss = impl.Boss{Workers: 4, Now: 1000000 - left}
				}
			})
			for _, rounds := range []int{1, 2, 4, 5, 6, 40} {
				got := checkCalm(t, w, rounds)
				if len(got.Flight) != 0 || got.Boss.Now != min(1000000, w.Boss.Now+rounds) {
					t.Errorf("%d rounds, %d ticks left: %d in flight, %d", rounds, left, len(got.Flight), got.Boss.Now)
				}
			}
			over := impl.Calm(w, left+1)
			checkWorld(t, "calm when time is over", impl.Calm(over, 100), over)
			for _, a := range []int{0, 1, left, left + 3} {
				checkWorld(t, "one calm and another", impl.Calm(impl.Calm(w, a), 40-a), impl.Calm(w, 40))
			}
		}
	}
}

// TestCalmBringsInOrder: behind the tick, from the first parcel on, those of the tick too.
func TestCalmBringsInOrder(t *testing.T) {
	p := standing(2, 1, 0)
	truth := impl.Truth(p)
	below := onItsWay(impl.Message{Kind: impl.MsgResult, From: 1, Epoch: 1, Lease: 1, Task: 0, Text: truth[0]}, "key")
	above := onItsWay(impl.Message{Kind: impl.MsgResult, From: 2, Epoch: 1, Lease: 2, Task: 1, Text: truth[1]}, "key")
	w := impl.NewWorld(p, "key", 2)
	w.Flight = []impl.Parcel{below, above}
	if got := checkCalm(t, w, 1); !impl.Finished(got) {
		t.Errorf("the one below first: %+v", got.Boss)
	}
	w.Flight = []impl.Parcel{above, below}
	if got := checkCalm(t, w, 1); impl.Finished(got) || got.Boss.Results[0] == "" {
		t.Errorf("the one above first: %+v", got.Boss)
	}
	// In the first round the workers tell that they are free, in the second the offer is sent and taken.
	w.Flight = nil
	if got := checkCalm(t, w, 1); !got.Boss.Seats[0].Free || !got.Boss.Seats[1].Free {
		t.Errorf("one round: %+v", got)
	}
	if got := checkCalm(t, w, 2); got.Workers[0].State != impl.WorkBusy || got.Workers[0].Left != 1 {
		t.Errorf("two rounds: %+v", got)
	}
	full := worldWith(w, func(w *impl.World) {
		for range 1999 {
			w.Flight = append(w.Flight, above)
		}
	})
	// There is room for what the first worker tells, and for nothing else.
	if got := checkCalm(t, full, 1); got.Boss.Seats[0] != (impl.Seat{Free: true, Epoch: 1}) || len(got.Flight) != 0 {
		t.Errorf("with little room: %+v", got)
	}
}

func TestCalmShowsTheFirstForged(t *testing.T) {
	w := impl.NewWorld(plainPlan(2), "key", 1)
	first := onItsWay(impl.Message{Kind: impl.MsgHere, From: 1, Epoch: 7}, "key").Bytes
	second := onItsWay(impl.Message{Kind: impl.MsgHere, From: 1, Epoch: 8}, "key").Bytes
	w.Flight = []impl.Parcel{{Bytes: "unread"}, {Bytes: first}, {Bytes: second}}
	if got := checkCalm(t, w, 3); got.Forged != first {
		t.Errorf("%q", got.Forged)
	}
	w.Forged = "before"
	if got := checkCalm(t, w, 3); got.Forged != "before" {
		t.Errorf("%q", got.Forged)
	}
}

// worldLists are the addresses of all that the lists of a world hold, room included, as often as they stand in one.
func worldLists(w impl.World) map[any]int {
	at := listsOf(impl.Led{Boss: w.Boss})
	add(at, w.Plan.Tasks)
	for _, task := range w.Plan.Tasks {
		add(at, task.Deps)
	}
	add(at, w.Workers)
	for _, worker := range w.Workers {
		add(at, worker.Inputs)
	}
	add(at, w.Flight)
	return at
}

// roomyWorld has room behind each list, also behind the empty ones.
func roomyWorld(w impl.World) impl.World {
	w = cloneWorld(w)
	w.Boss = roomy(w.Boss)
	w.Plan.Tasks = append(w.Plan.Tasks, impl.Task{Name: "behind"})[:len(w.Plan.Tasks)]
	for i, task := range w.Plan.Tasks {
		w.Plan.Tasks[i].Deps = append(task.Deps, -9, -9)[:len(task.Deps)]
	}
	w.Workers = append(w.Workers, impl.Worker{Text: "behind"})[:len(w.Workers)]
	for i, worker := range w.Workers {
		w.Workers[i].Inputs = append(worker.Inputs, "behind", "behind")[:len(worker.Inputs)]
	}
	w.Flight = append(w.Flight, impl.Parcel{Sent: "behind"}, impl.Parcel{Sent: "behind"})[:len(w.Flight)]
	return w
}

// wholeWorld is a clone of a world with its lists up to the end of their room.
func wholeWorld(w impl.World) impl.World {
	crew := w.Workers[:cap(w.Workers)]
	tasks := w.Plan.Tasks[:cap(w.Plan.Tasks)]
	w.Workers, w.Plan.Tasks = nil, nil
	for _, worker := range crew {
		worker.Inputs = copyOf(worker.Inputs[:cap(worker.Inputs)])
		w.Workers = append(w.Workers, worker)
	}
	for _, task := range tasks {
		task.Deps = copyOf(task.Deps[:cap(task.Deps)])
		w.Plan.Tasks = append(w.Plan.Tasks, task)
	}
	w.Boss = cloneBoss(whole(w.Boss))
	w.Flight = copyOf(w.Flight[:cap(w.Flight)])
	return w
}

// TestWorldsAreNewMemory: nothing is written into an argument or behind its end, and no memory of an answer is met twice, in it or in an argument.
func TestWorldsAreNewMemory(t *testing.T) {
	acts := map[string]func(w impl.World) impl.World{
		"new":      func(w impl.World) impl.World { return impl.NewWorld(w.Plan, w.Key, 8) },
		"no calm":  func(w impl.World) impl.World { return impl.Calm(w, 0) },
		"one calm": func(w impl.World) impl.World { return impl.Calm(w, 1) },
		"calm":     func(w impl.World) impl.World { return impl.Calm(w, 60) },
	}
	for kind := range 9 {
		for a := range 9 {
			acts["event "+strconv.Itoa(kind)+" of "+strconv.Itoa(a)] = func(w impl.World) impl.World { return impl.Do(w, impl.Event{Kind: kind, A: a, B: 1, C: 1}) }
		}
	}
	for name, w := range map[string]impl.World{
		"mid":   midWorld(),
		"flush": worldWith(midWorld(), func(w *impl.World) { w.Boss.Since, w.Boss.Jobs[2] = 1, impl.Job{} }),
		"down":  worldWith(midWorld(), func(w *impl.World) { w.Boss = downBoss() }),
		"new":   impl.NewWorld(crewPlan(), "key", 3),
		"full":  worldWith(midWorld(), func(w *impl.World) { w.Flight = parcels(2000) }),
	} {
		for what, act := range acts {
			arg := roomyWorld(w)
			before := wholeWorld(arg)
			given := worldLists(arg)
			got := act(arg)
			if !reflect.DeepEqual(wholeWorld(arg), before) {
				t.Errorf("%s of %s: an argument was changed", what, name)
			}
			for at, n := range worldLists(got) {
				if n > 1 || given[at] > 0 {
					t.Errorf("%s of %s: memory is shared: %T", what, name, at)
				}
			}
			if len(got.Workers) == 0 {
				t.Errorf("%s of %s gives nothing", what, name)
			}
			impl.Finished(arg)
			impl.Wrong(arg)
			impl.ValidWorld(arg)
			if !reflect.DeepEqual(wholeWorld(arg), before) {
				t.Errorf("%s: asking changed it", name)
			}
		}
	}
}

// TestGoroutinesEnd: none is left behind by the calls that start them.
func TestGoroutinesEnd(t *testing.T) {
	before := runtime.NumGoroutine()
	w := impl.NewWorld(crewPlan(), "key", 8)
	for range 100 {
		w = impl.Do(w, impl.Event{Kind: impl.EvTick})
	}
	impl.Calm(w, 500)
	// One that is done may be counted for a moment still.
	for range 1000 {
		if runtime.NumGoroutine() <= before {
			return
		}
		time.Sleep(time.Millisecond)
	}
	t.Errorf("%d goroutines, %d before", runtime.NumGoroutine(), before)
}
