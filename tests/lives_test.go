package tests

import (
	"math/rand"
	"reflect"
	"runtime"
	"testing"

	"loop.example/kilncrew/impl"
)

// A history is a world led on from NewWorld by events, with what has come of it.
type history struct {
	t      *testing.T
	r      *rand.Rand
	w      impl.World
	truth  []string
	leases map[int]int
	seen   map[string]int
}

func newHistory(t *testing.T, r *rand.Rand, p impl.Plan, workers int) *history {
	w := impl.NewWorld(p, "key", workers)
	return &history{t: t, r: r, w: w, truth: impl.Truth(p), leases: map[int]int{}, seen: map[string]int{}}
}

// event is one of chance, mostly one that finds something.
func (h *history) event() impl.Event {
	k := h.r.Intn(len(h.w.Flight)+2) - 1
	// What is brought is mostly among the first, so that not all is late.
	if h.r.Intn(3) > 0 {
		k = min(k, h.r.Intn(4))
	}
	number := 1 + h.r.Intn(len(h.w.Workers))
	switch n := h.r.Intn(200); {
	case n < 70:
		return impl.Event{Kind: impl.EvTick}
	case n < 150:
		return impl.Event{Kind: impl.EvBring, A: k}
	case n < 162:
		return impl.Event{Kind: impl.EvDouble, A: k}
	case n < 172:
		return impl.Event{Kind: impl.EvLose, A: k}
	case n < 182:
		return impl.Event{Kind: impl.EvBend, A: k, B: h.r.Intn(40) - 1, C: h.r.Intn(600) - 20}
	case n < 185:
		return impl.Event{Kind: impl.EvFall, A: number}
	case n < 191:
		return impl.Event{Kind: impl.EvRise, A: number}
	case n < 193:
		return impl.Event{Kind: impl.EvFall, A: 0, B: h.r.Intn(5) - 1}
	case n < 197:
		return impl.Event{Kind: impl.EvRise, A: 0}
	}
	return impl.Event{Kind: h.r.Intn(12) - 2, A: h.r.Intn(12) - 2, B: h.r.Intn(12) - 2, C: h.r.Intn(12) - 2}
}

// do lets an event happen, and asks for all that is promised of each.
func (h *history) do(e impl.Event) {
	h.t.Helper()
	before := h.w
	h.w = checkDo(h.t, before, e)
	h.seen["events"]++
	h.checkLeases(before)
	if e.Kind == impl.EvTick {
		h.checkSent(h.w.Flight[len(before.Flight):])
	}
	h.checkResults()
	if impl.Finished(before) && !(e.Kind == impl.EvFall && e.A == 0) && !impl.Finished(h.w) {
		h.t.Fatalf("%+v: not finished any more", e)
	}
	if e.Kind == impl.EvRise && e.A == 0 && h.w.Boss.Up && !before.Boss.Up {
		h.seen["rises"]++
	}
}

// checkLeases asks for P6: no lease is handed out twice, in all epochs.
func (h *history) checkLeases(before impl.World) {
	h.t.Helper()
	for task, job := range h.w.Boss.Jobs {
		if job.Lease == 0 || before.Boss.Up && before.Boss.Jobs[task].Lease == job.Lease {
			continue
		}
		if _, met := h.leases[job.Lease]; met {
			h.t.Fatalf("lease %d is handed out twice", job.Lease)
		}
		h.leases[job.Lease] = task
		h.seen["leases"]++
	}
}

// checkSent asks for P4, P6 and P8 of what is put on its way.
func (h *history) checkSent(flight []impl.Parcel) {
	h.t.Helper()
	for _, s := range flight {
		m, ok := impl.ReadMessage(s.Sent, h.w.Key)
		if !ok || s.Bytes != s.Sent || s.To != m.To {
			h.t.Fatalf("%+v is on its way", s)
		}
		epoch := h.w.Boss.Epoch
		if m.From > 0 {
			epoch = h.w.Workers[m.From-1].Epoch
		}
		if m.Epoch != epoch {
			h.t.Fatalf("%+v is sent in epoch %d", m, epoch)
		}
		task, known := h.leases[m.Lease]
		if m.Lease != 0 && !known && h.w.Forged == "" {
			h.t.Fatalf("%+v: nobody has that lease", m)
		}
		if m.Kind == impl.MsgThanks && h.w.Forged == "" {
			h.seen["thanks"]++
			if replayWanted(h.w.Plan, h.w.Boss.Log.Safe).Results[task] == "" {
				h.t.Fatalf("%+v: the result of task %d is not safe", m, task)
			}
		}
	}
	h.checkFlight()
}

// checkFlight asks for P10.
func (h *history) checkFlight() {
	h.t.Helper()
	if h.w.Forged != "" {
		return
	}
	for _, s := range h.w.Flight {
		m, _ := impl.ReadMessage(s.Sent, h.w.Key)
		switch m.Kind {
		case impl.MsgOffer:
			h.seen["offers"]++
			var want []string
			for _, d := range h.w.Plan.Tasks[m.Task].Deps {
				want = append(want, h.truth[d])
			}
			if !reflect.DeepEqual(copyOf(m.Inputs), want) {
				h.t.Fatalf("%+v is offered", m)
			}
		case impl.MsgResult:
			h.seen["results"]++
			if m.Text != h.truth[m.Task] {
				h.t.Fatalf("%+v is told", m)
			}
		}
	}
}

// checkResults asks for P9, and for Wrong as the document says it.
func (h *history) checkResults() {
	h.t.Helper()
	entries := append(copyOf(h.w.Boss.Log.Safe), h.w.Boss.Log.Loose...)
	want := -1
	for task, text := range replayWanted(h.w.Plan, entries).Results {
		if want < 0 && text != "" && text != h.truth[task] {
			want = task
		}
	}
	if got := impl.Wrong(h.w); got != want {
		h.t.Fatalf("Wrong is %d, want %d", got, want)
	}
	if want != -1 && h.w.Forged == "" {
		h.t.Fatalf("task %d is wrong, and nothing is forged", want)
	}
}

// checkCalms asks for P11, from a world that the history has come to: someone must be Up there, and so must the coordinator.
func (h *history) checkCalms() {
	h.t.Helper()
	b := h.w.Boss
	if !b.Up || len(b.Log.Safe)+len(b.Log.Loose) > 310-40 || b.Now > 1000000-2000 || b.Given > 1000000-2000 {
		return
	}
	for _, worker := range h.w.Workers {
		if !worker.Up {
			continue
		}
		end := impl.Calm(h.w, 200+30*len(h.truth))
		if end.Forged == "" && (!impl.Finished(end) || !reflect.DeepEqual(end.Boss.Results, h.truth)) {
			h.t.Fatalf("not finished: %+.3000v", end)
		}
		h.seen["calms"]++
		return
	}
}

// alone lets all workers fall but one, and the coordinator and that one rise.
func (h *history) alone(number int) {
	for i := range h.w.Workers {
		if i+1 != number {
			h.do(impl.Event{Kind: impl.EvFall, A: i + 1})
		}
	}
	h.do(impl.Event{Kind: impl.EvRise, A: 0})
	h.do(impl.Event{Kind: impl.EvRise, A: number})
}

// chainPlan is one task above the other, each of the greatest cost.
func chainPlan(n int) impl.Plan {
	p := plainPlan(n)
	for i := range p.Tasks {
		p.Tasks[i].Cost = 20
		if i > 0 {
			p.Tasks[i].Deps = []int{i - 1}
		}
	}
	return p
}

func dearPlan(n int) impl.Plan {
	p := plainPlan(n)
	for i := range p.Tasks {
		p.Tasks[i].Cost = 20
	}
	return p
}

// TestWorldsLives leads worlds through long lives of chance, and asks at each step for P4, P6, P8, P9, P10, P12 and P13, and now and then for P11.
func TestWorldsLives(t *testing.T) {
	r := rand.New(rand.NewSource(14))
	seen := map[string]int{}
	plans := []func() impl.Plan{
		func() impl.Plan { return plainPlan(1) },
		func() impl.Plan { return dearPlan(1) },
		func() impl.Plan { return chainPlan(40) },
		func() impl.Plan { return dearPlan(40) },
		func() impl.Plan { return crewPlan() },
		func() impl.Plan { return randomPlan(r) },
	}
	for i := range 48 {
		workers := 1 + i%3
		if i%8 == 7 {
			workers = 8
		}
		h := newHistory(t, r, plans[i%len(plans)](), workers)
		for step := range 800 {
			h.do(h.event())
			if step%80 == 79 {
				h.checkCalms()
			}
		}
		h.alone(1 + r.Intn(workers))
		h.checkCalms()
		for what, n := range h.seen {
			seen[what] += n
		}
		if impl.Finished(h.w) {
			seen["finished"]++
		}
	}
	for what, least := range map[string]int{"events": 38000, "leases": 500, "thanks": 200, "offers": 1000, "results": 1000, "rises": 100, "calms": 200, "finished": 4} {
		if seen[what] < least {
			t.Errorf("only %d %s: %v", seen[what], what, seen)
		}
	}
}

// TestLivesWithLies: in such lives a result is bent into another with a right seal, and each promise holds that is made of forged worlds.
func TestLivesWithLies(t *testing.T) {
	r := rand.New(rand.NewSource(15))
	lies, wrong := 0, 0
	for i := range 24 {
		h := newHistory(t, r, crewPlan(), 1+i%3)
		first := ""
		for range 500 {
			h.do(h.event())
			k := r.Intn(len(h.w.Flight) + 1)
			if k == len(h.w.Flight) || r.Intn(8) > 0 {
				continue
			}
			m, ok := impl.ReadMessage(h.w.Flight[k].Bytes, "key")
			if !ok || m.Kind != impl.MsgResult {
				continue
			}
			m.Text = "lie" + m.Text[3:]
			lie := onItsWay(m, "key").Bytes
			h.w = bendInto(t, h.w, k, lie)
			h.do(impl.Event{Kind: impl.EvBring, A: k})
			if first == "" {
				first = lie
			}
			lies++
			if h.w.Forged != first {
				t.Fatalf("%q is shown, %q was first", h.w.Forged, first)
			}
		}
		if impl.Wrong(h.w) != -1 {
			wrong++
		}
	}
	if lies < 50 || wrong < 5 {
		t.Errorf("only %d lies, %d worlds wrong", lies, wrong)
	}
}

// TestCalmFinishes: P11 at its edges, with each number of workers and each of them alone.
func TestCalmFinishes(t *testing.T) {
	r := rand.New(rand.NewSource(16))
	for workers := 1; workers <= 8; workers++ {
		for _, p := range []impl.Plan{plainPlan(1), dearPlan(1), chainPlan(40), dearPlan(40), crewPlan(), randomPlan(r)} {
			edge := newHistory(t, r, p, workers)
			edge.w.Boss.Now, edge.w.Boss.Given = 1000000-2000, 1000000-2000
			edge.checkCalms()
			full := newHistory(t, r, p, workers)
			full.w.Flight = parcels(2000)
			full.checkCalms()
			for number := 1; number <= workers; number++ {
				h := newHistory(t, r, p, workers)
				// All have been handed something before the others fall.
				h.w = impl.Calm(h.w, r.Intn(30))
				for n := range workers {
					if n+1 != number {
						h.w = checkDo(t, h.w, impl.Event{Kind: impl.EvFall, A: n + 1})
					}
				}
				h.checkCalms()
			}
		}
	}
}

// TestCalmFinishesWithALongLog: P11 with as many entries as it allows, and with a log that is too full for all results.
func TestCalmFinishesWithALongLog(t *testing.T) {
	p := chainPlan(40)
	w := impl.NewWorld(p, "key", 2)
	for range 269 {
		w = impl.Do(impl.Do(w, impl.Event{Kind: impl.EvFall}), impl.Event{Kind: impl.EvRise})
	}
	if len(w.Boss.Log.Safe) != 270 || w.Boss.Epoch != 270 {
		t.Fatalf("%d entries, epoch %d", len(w.Boss.Log.Safe), w.Boss.Epoch)
	}
	end := impl.Calm(w, 200+30*40)
	if !impl.Finished(end) || impl.Wrong(end) != -1 || len(end.Boss.Log.Safe)+len(end.Boss.Log.Loose) != 310 {
		t.Errorf("%+.1000v", end.Boss)
	}
	w = impl.Do(impl.Do(w, impl.Event{Kind: impl.EvFall}), impl.Event{Kind: impl.EvRise})
	if end := impl.Calm(w, 2000); impl.Finished(end) || impl.Wrong(end) != -1 || end.Boss.Results[38] == "" || end.Boss.Results[39] != "" {
		t.Errorf("%+.1000v", end.Boss)
	}
}

// finishedWorlds are such with all sorts of parcels in flight, and with safe and loose entries.
func finishedWorlds(t *testing.T) []impl.World {
	var out []impl.World
	for _, p := range []impl.Plan{plainPlan(1), crewPlan(), chainPlan(5)} {
		for workers := 1; workers <= 3; workers++ {
			w := impl.NewWorld(p, "key", workers)
			for rounds := 1; !impl.Finished(w); rounds++ {
				w = impl.Calm(w, 1)
				if rounds > 400 {
					t.Fatalf("not finished: %+v", w.Boss)
				}
			}
			for range 5 {
				out = append(out, w)
				w = impl.Do(w, impl.Event{Kind: impl.EvTick})
			}
			for _, m := range midMessages() {
				w.Flight = append(w.Flight, onItsWay(m, "key"))
			}
			out = append(out, w)
		}
	}
	return out
}

// TestFinishedStays asks for P12, of each event and of falls and rises.
func TestFinishedStays(t *testing.T) {
	for _, w := range finishedWorlds(t) {
		for kind := -1; kind < 10; kind++ {
			for a := -1; a < len(w.Flight)+2; a++ {
				if kind == impl.EvFall && a == 0 {
					continue
				}
				got := checkDo(t, w, impl.Event{Kind: kind, A: a, B: 5, C: 9})
				if !impl.Finished(got) || !reflect.DeepEqual(got.Boss.Results, w.Boss.Results) {
					t.Errorf("event %d, %d: %+v", kind, a, got.Boss)
				}
			}
		}
		if got := impl.Calm(w, 100); !impl.Finished(got) || !reflect.DeepEqual(got.Boss.Results, w.Boss.Results) {
			t.Errorf("calm: %+v", got.Boss)
		}
		safe := replayWanted(w.Plan, w.Boss.Log.Safe).Results
		for keep := -1; keep < len(w.Boss.Log.Loose)+2; keep++ {
			down := checkDo(t, w, impl.Event{Kind: impl.EvFall, A: 0, B: keep})
			up := checkDo(t, down, impl.Event{Kind: impl.EvRise, A: 0})
			if impl.Finished(down) || !up.Boss.Up || impl.Finished(up) != (keep >= len(w.Boss.Log.Loose) || len(w.Boss.Log.Loose) == 0) {
				t.Errorf("a fall with %d of %d: %+v", keep, len(w.Boss.Log.Loose), up.Boss)
			}
			for task, text := range safe {
				if text != "" && up.Boss.Results[task] != text {
					t.Errorf("task %d was safe: %+v", task, up.Boss)
				}
			}
		}
	}
}

// TestSameEventsSameWorld: nothing hangs on which goroutine is first.
func TestSameEventsSameWorld(t *testing.T) {
	defer runtime.GOMAXPROCS(runtime.GOMAXPROCS(0))
	for workers := 1; workers <= 8; workers++ {
		r := rand.New(rand.NewSource(int64(workers)))
		h := newHistory(t, r, randomPlan(r), workers)
		first := h.w
		var events []impl.Event
		for range 200 {
			e := h.event()
			events = append(events, e)
			h.do(e)
		}
		calm := impl.Calm(h.w, 100)
		for try := range 24 {
			runtime.GOMAXPROCS(1 + try%8)
			w := first
			for _, e := range events {
				w = impl.Do(w, e)
			}
			checkWorld(t, "the same events", w, h.w)
			checkWorld(t, "the same rounds", impl.Calm(w, 100), calm)
		}
	}
}
