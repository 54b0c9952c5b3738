package tests

import (
	"math"
	"math/rand"
	"reflect"
	"slices"
	"strings"
	"testing"

	"loop.example/kilncrew/impl"
)

// parcels are n different ones, some of them bent.
func parcels(n int) []impl.Parcel {
	var out []impl.Parcel
	for i := range n {
		s := string([]byte{byte(i), byte(i >> 8), 'p'})
		out = append(out, impl.Parcel{To: i % 9, Sent: s, Bytes: s[i%2:]})
	}
	return out
}

// onItsWay is the parcel that a valid message is sent as.
func onItsWay(m impl.Message, key string) impl.Parcel {
	s := sealed(bodyOf(m), key)
	return impl.Parcel{To: m.To, Sent: s, Bytes: s}
}

// beats are n valid messages, no two of them the same.
func beats(n int) []impl.Message {
	var out []impl.Message
	for i := range n {
		out = append(out, impl.Message{Kind: impl.MsgBeat, From: 1 + i%8, Epoch: 1 + i%300, Lease: 1 + i})
	}
	return out
}

// notValid are messages that have no form.
func notValid() []impl.Message {
	return []impl.Message{{}, {Kind: 9, From: 1, Epoch: 1}, {Kind: impl.MsgHere, From: 9, Epoch: 1}, {Kind: impl.MsgThanks, To: 1, Epoch: 1}, {Kind: impl.MsgHere, From: 1, Epoch: 301}}
}

// checkFlight asks that a flight is made of what is wanted, in memory that it does not share with the one it comes from.
func checkFlight(t *testing.T, what string, arg, was, got, want []impl.Parcel) {
	t.Helper()
	if !reflect.DeepEqual(copyOf(got), copyOf(want)) {
		t.Fatalf("%s: %d parcels, want %d: %+.300v", what, len(got), len(want), got)
	}
	if !reflect.DeepEqual(copyOf(arg[:cap(arg)]), was) {
		t.Fatalf("%s: the flight that was handed in was changed", what)
	}
	given := map[any]int{}
	add(given, arg)
	held := map[any]int{}
	add(held, got)
	for at := range held {
		if given[at] > 0 {
			t.Fatalf("%s: memory is shared", what)
		}
	}
}

// roomyFlight has room behind it that must stay as it is.
func roomyFlight(flight []impl.Parcel) (arg, was []impl.Parcel) {
	all := append(copyOf(flight), impl.Parcel{To: -1, Sent: "behind"}, impl.Parcel{To: -2})
	return all[:len(flight)], copyOf(all[:cap(all)])
}

func checkPost(t *testing.T, what string, flight []impl.Parcel, out []impl.Message, key string, want []impl.Parcel) {
	t.Helper()
	arg, was := roomyFlight(flight)
	var before []impl.Message
	for _, m := range out {
		before = append(before, cloneMessage(m))
	}
	checkFlight(t, what, arg, was, impl.Post(arg, out, key), want)
	for i, m := range out {
		if !reflect.DeepEqual(cloneMessage(m), before[i]) {
			t.Fatalf("%s: a message was changed", what)
		}
	}
}

func TestPostOfEachKind(t *testing.T) {
	checkPost(t, "none", nil, nil, "key", nil)
	checkPost(t, "none behind some", parcels(3), nil, "key", parcels(3))
	checkPost(t, "an empty list", []impl.Parcel{}, []impl.Message{}, "key", nil)
	for kind, m := range samples() {
		for _, key := range keys() {
			checkPost(t, "one", nil, []impl.Message{m}, key, []impl.Parcel{onItsWay(m, key)})
		}
		checkPost(t, "one behind some", parcels(2), []impl.Message{m}, "key", append(parcels(2), onItsWay(m, "key")))
		checkPost(t, "one twice", nil, []impl.Message{m, m}, "key", []impl.Parcel{onItsWay(m, "key"), onItsWay(m, "key")})
		for _, key := range []string{strings.Repeat("k", 31), strings.Repeat("k", 5000)} {
			checkPost(t, "a key that is too long", parcels(2), []impl.Message{m}, key, parcels(2))
		}
		if got := impl.Post(nil, []impl.Message{m}, "key")[0].To; got != m.To || (got == 0) != (kind == impl.MsgBeat || kind == impl.MsgResult || kind == impl.MsgHere) {
			t.Errorf("%+v is posted to %d", m, got)
		}
	}
}

func TestPostKeepsTheOrder(t *testing.T) {
	var out []impl.Message
	var want []impl.Parcel
	for _, m := range messages() {
		if len(want) == 1990 {
			break
		}
		out = append(out, m)
		want = append(want, onItsWay(m, "key"))
	}
	checkPost(t, "all in order", nil, out, "key", want)
	checkPost(t, "all in order behind some", parcels(10), out, "key", append(parcels(10), want...))
}

// TestPostLeavesOut: messages without a form take no room, wherever they stand.
func TestPostLeavesOut(t *testing.T) {
	for _, none := range notValid() {
		here := beats(3)
		var want []impl.Parcel
		for _, m := range here {
			want = append(want, onItsWay(m, "k"))
		}
		checkPost(t, "one without a form", parcels(1), []impl.Message{none}, "k", parcels(1))
		checkPost(t, "in front", nil, append([]impl.Message{none}, here...), "k", want)
		checkPost(t, "behind", nil, append(here, none), "k", want)
		checkPost(t, "in between", nil, []impl.Message{here[0], none, none, here[1], none, here[2]}, "k", want)
		flight := parcels(1998)
		checkPost(t, "with room for two", flight, []impl.Message{none, here[0], none, none, here[1], none, here[2]}, "k", append(flight, want[:2]...))
	}
}

func TestPostWithLittleRoom(t *testing.T) {
	for _, n := range []int{0, 1, 1990, 1997, 1998, 1999, 2000, 2001, 2002, 3000} {
		for _, sent := range []int{0, 1, 2, 3, 11, 2001} {
			flight := parcels(n)
			want := copyOf(flight)
			for _, m := range beats(sent) {
				if len(want) < 2000 {
					want = append(want, onItsWay(m, "key"))
				}
			}
			checkPost(t, "little room", flight, beats(sent), "key", want)
		}
	}
}

// places are numbers at and around the ends of n things.
func places(n int) []int {
	return []int{math.MinInt, -n - 1, -n, -2, -1, 0, 1, n / 2, n - 2, n - 1, n, n + 1, n + 2, 2 * n, math.MaxInt}
}

func doubleWanted(flight []impl.Parcel, k int) []impl.Parcel {
	out := copyOf(flight)
	if 0 <= k && k < len(out) && len(out) < 2000 {
		out = append(out, flight[k])
	}
	return out
}

func loseWanted(flight []impl.Parcel, k int) []impl.Parcel {
	var out []impl.Parcel
	for i, s := range flight {
		if i != k || len(flight) > 2000 {
			out = append(out, s)
		}
	}
	return out
}

func bendWanted(flight []impl.Parcel, k, place, mask int) []impl.Parcel {
	out := copyOf(flight)
	if len(out) > 2000 || k < 0 || k >= len(out) || place < 0 || place >= len(out[k].Bytes) || mask < 0 {
		return out
	}
	b := out[k].Bytes
	out[k].Bytes = b[:place] + string([]byte{b[place] ^ byte(mask&255)}) + b[place+1:]
	return out
}

func TestPlacesOfParcels(t *testing.T) {
	for _, n := range []int{0, 1, 2, 3, 10, 1998, 1999, 2000, 2001, 2002, 2500} {
		flight := parcels(n)
		for _, k := range places(n) {
			arg, was := roomyFlight(flight)
			checkFlight(t, "Double", arg, was, impl.Double(arg, k), doubleWanted(flight, k))
			checkFlight(t, "Lose", arg, was, impl.Lose(arg, k), loseWanted(flight, k))
			for _, place := range []int{-1, 0, 1, 2, 3} {
				checkFlight(t, "Bend", arg, was, impl.Bend(arg, k, place, 5), bendWanted(flight, k, place, 5))
			}
		}
	}
}

func TestDoublesAndLosses(t *testing.T) {
	f := slices.Clip(parcels(3))
	f[1].Bytes = "bent"
	checkFlight(t, "a bent one is doubled as it is", f, copyOf(f), impl.Double(f, 1), []impl.Parcel{f[0], f[1], f[2], f[1]})
	checkFlight(t, "the first is lost", f, copyOf(f), impl.Lose(f, 0), []impl.Parcel{f[1], f[2]})
	checkFlight(t, "one between is lost", f, copyOf(f), impl.Lose(f, 1), []impl.Parcel{f[0], f[2]})
	checkFlight(t, "the last is lost", f, copyOf(f), impl.Lose(f, 2), []impl.Parcel{f[0], f[1]})
	same := []impl.Parcel{f[0], f[0], f[1], f[0]}
	checkFlight(t, "of the same ones only one is lost", same, copyOf(same), impl.Lose(same, 1), []impl.Parcel{f[0], f[1], f[0]})
	for n, grows := range map[int]bool{1998: true, 1999: true, 2000: false, 2001: false} {
		for _, k := range []int{0, 1, n - 1} {
			g := impl.Double(parcels(n), k)
			if (len(g) == n+1) != grows || len(g) < n || grows && g[n] != parcels(n)[k] {
				t.Errorf("parcel %d of %d doubled: %d parcels", k, n, len(g))
			}
		}
	}
}

func TestBends(t *testing.T) {
	for _, size := range []int{0, 1, 2, 3, 91, 499, 500, 501} {
		b := make([]byte, size)
		for i := range b {
			b[i] = byte(i*7 + 3)
		}
		flight := []impl.Parcel{{To: 1, Sent: "one", Bytes: "one"}, {To: 2, Sent: "sent", Bytes: string(b)}, {To: 3, Sent: "three", Bytes: string(b)}}
		for _, place := range places(size) {
			for _, mask := range []int{math.MinInt, -257, -256, -255, -128, -1, 0, 1, 2, 127, 128, 254, 255, 256, 257, 511, 512, 513, 65535, 65536, 1<<32 + 6, math.MaxInt - 255, math.MaxInt} {
				arg, was := roomyFlight(flight)
				checkFlight(t, "a bend", arg, was, impl.Bend(arg, 1, place, mask), bendWanted(flight, 1, place, mask))
			}
		}
	}
	f := []impl.Parcel{{Sent: "abc", Bytes: "abc"}}
	for _, c := range []struct {
		place, mask int
		want        string
	}{
		{0, 0, "abc"}, {0, 1, "`bc"}, {0, 255, "\x9ebc"}, {1, 256, "abc"}, {1, 257, "acc"}, {2, 0x120, "abC"}, {2, 32, "abC"}, {2, -32, "abc"}, {3, 1, "abc"}, {-1, 1, "abc"},
	} {
		got := impl.Bend(f, 0, c.place, c.mask)
		if len(got) != 1 || got[0] != (impl.Parcel{Sent: "abc", Bytes: c.want}) {
			t.Errorf("abc bent at %d by %d: %+v", c.place, c.mask, got)
		}
		if back := impl.Bend(got, 0, c.place, c.mask); len(back) != 1 || back[0] != f[0] {
			t.Errorf("abc bent at %d by %d, twice: %+v", c.place, c.mask, back)
		}
	}
}

func checkForged(t *testing.T, what string, s impl.Parcel, key string, want bool) {
	t.Helper()
	if got := impl.Forged(s, key); got != want {
		t.Errorf("%s: %v: %+v", what, got, s)
	}
}

func TestForgedParcels(t *testing.T) {
	checkForged(t, "nothing", impl.Parcel{}, "key", false)
	checkForged(t, "nothing left", impl.Parcel{Sent: "sent"}, "key", false)
	checkForged(t, "no message", impl.Parcel{Bytes: "no message"}, "key", false)
	for kind, m := range samples() {
		s := onItsWay(m, "key")
		checkForged(t, "as it was sent", s, "key", false)
		checkForged(t, "as it was sent, with another key", s, "kex", false)
		for place := range len(s.Bytes) {
			for _, mask := range []int{1, 128, 255} {
				checkForged(t, "bent once", impl.Bend([]impl.Parcel{s}, 0, place, mask)[0], "key", false)
			}
			twice := impl.Bend(impl.Bend([]impl.Parcel{s}, 0, place, 9), 0, place, 9)
			checkForged(t, "bent there and back", twice[0], "key", false)
		}
		for other, m := range samples() {
			for _, to := range []int{-1, 0, 5, 9} {
				lie := impl.Parcel{To: to, Sent: s.Sent, Bytes: onItsWay(m, "key").Bytes}
				checkForged(t, "another message", lie, "key", kind != other)
				checkForged(t, "another message, with another key", lie, "kez", false)
				checkForged(t, "another message, with a long key", lie, strings.Repeat("k", 31), false)
			}
		}
		checkForged(t, "never sent", impl.Parcel{Bytes: s.Bytes}, "key", true)
		checkForged(t, "sealed with another key", impl.Parcel{Sent: s.Sent, Bytes: onItsWay(m, "other").Bytes}, "key", false)
		// The Epoch, which stays within its limits, and the Kind, which is none any more.
		checkForged(t, "bent and sealed anew", resealed(s, 12, 4, "key"), "key", true)
		checkForged(t, "sealed anew for another key", resealed(s, 12, 4, "other"), "key", false)
		checkForged(t, "bent into no message and sealed anew", resealed(s, 8, 64, "key"), "key", false)
	}
	long := strings.Repeat("k", 31)
	checkForged(t, "with a key that is too long", impl.Parcel{Bytes: sealed(bodyOf(samples()[5]), long)}, long, false)
	checkForged(t, "with the longest key", impl.Parcel{Bytes: sealed(bodyOf(samples()[5]), long[1:])}, long[1:], true)
	checkForged(t, "a right seal of no message", impl.Parcel{Bytes: sealed("no message", "key")}, "key", false)
}

// resealed is a parcel with one byte bent and the seal that is then right, by bends alone.
func resealed(s impl.Parcel, place, mask int, key string) impl.Parcel {
	f := impl.Bend([]impl.Parcel{s}, 0, place, mask)
	seal := sumOf(key + "\x00" + f[0].Bytes[8:])
	for i := range 8 {
		f = impl.Bend(f, 0, i, int(f[0].Bytes[i]^seal[i]))
	}
	return f[0]
}

// TestNetsLives puts chances of all sorts together, on flights small and great.
func TestNetsLives(t *testing.T) {
	r := rand.New(rand.NewSource(10))
	for _, n := range []int{0, 3, 1995} {
		flight := parcels(n)
		for range 400 {
			arg, was := roomyFlight(flight)
			k := r.Intn(len(flight)+3) - 1
			switch r.Intn(4) {
			case 0:
				want := copyOf(flight)
				out := beats(r.Intn(5))
				for _, m := range out {
					if len(want) < 2000 {
						want = append(want, onItsWay(m, "key"))
					}
				}
				flight = impl.Post(arg, out, "key")
				checkFlight(t, "Post", arg, was, flight, want)
			case 1:
				want := doubleWanted(flight, k)
				flight = impl.Double(arg, k)
				checkFlight(t, "Double", arg, was, flight, want)
			case 2:
				want := loseWanted(flight, k)
				flight = impl.Lose(arg, k)
				checkFlight(t, "Lose", arg, was, flight, want)
			default:
				place, mask := r.Intn(30)-1, r.Intn(600)-20
				want := bendWanted(flight, k, place, mask)
				flight = impl.Bend(arg, k, place, mask)
				checkFlight(t, "Bend", arg, was, flight, want)
			}
		}
	}
}
