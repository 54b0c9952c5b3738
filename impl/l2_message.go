package impl

import (
	"errors"
	"strings"
)

// Limits of messages.
const (
	MaxWorkers = 8
	MaxEpoch   = 300
	MaxLease   = 1000000
)

// Kinds of messages.
const (
	MsgOffer  = 1
	MsgBeat   = 2
	MsgResult = 3
	MsgThanks = 4
	MsgHere   = 5
)

// Message is a message.
type Message struct {
	Kind   int
	From   int
	To     int
	Epoch  int
	Lease  int
	Task   int
	Text   string
	Inputs []string
}

// A usage says which way messages of a kind go and which parts they use.
type usage struct {
	fromBoss bool
	lease    bool
	task     bool
	text     bool
	inputs   bool
}

// usages has a row for each kind, at the place of its number; the one at 0 is of no kind.
var usages = [MsgHere + 1]usage{
	MsgOffer:  {fromBoss: true, lease: true, task: true, inputs: true},
	MsgBeat:   {lease: true},
	MsgResult: {lease: true, task: true, text: true},
	MsgThanks: {fromBoss: true, lease: true},
	MsgHere:   {},
}

func isKind(kind int) bool {
	return within(kind, MsgOffer, MsgHere)
}

func within(n, low, high int) bool {
	return low <= n && n <= high
}

func validMessage(m Message) bool {
	if !isKind(m.Kind) {
		return false
	}
	u := usages[m.Kind]
	boss, worker := m.To, m.From
	if u.fromBoss {
		boss, worker = m.From, m.To
	}
	return boss == 0 && within(worker, 1, MaxWorkers) &&
		within(m.Epoch, 1, MaxEpoch) &&
		leaseHolds(m.Lease, u.lease) &&
		taskHolds(m.Task, u.task) &&
		textHolds(m.Text, u.text) &&
		inputsHold(m.Inputs, u.inputs)
}

func leaseHolds(lease int, used bool) bool {
	if !used {
		return lease == 0
	}
	return within(lease, 1, MaxEpoch*MaxLease)
}

func taskHolds(task int, used bool) bool {
	if !used {
		return task == 0
	}
	return within(task, 0, MaxTasks-1)
}

func textHolds(text string, used bool) bool {
	if !used {
		return text == ""
	}
	return len(text) == sumBytes
}

func inputsHold(inputs []string, used bool) bool {
	if !used {
		return len(inputs) == 0
	}
	if len(inputs) > MaxDeps {
		return false
	}
	for _, input := range inputs {
		if len(input) != sumBytes {
			return false
		}
	}
	return true
}

// FormMessage writes and seals a message.
func FormMessage(m Message, key string) string {
	if !validMessage(m) || len(key) > MaxName {
		return ""
	}
	body := formBody(m)
	return seal(body, key) + body
}

// seal is a Value because both are the sum of a text, a zero byte and another text.
func seal(body, key string) string {
	return Value(key, []string{body})
}

func formBody(m Message) string {
	var w writer
	w.number(m.Kind, 1)
	w.number(m.From, 1)
	w.number(m.To, 1)
	w.number(m.Epoch, 2)
	w.number(m.Lease, 4)
	w.number(m.Task, 1)
	w.number(len(m.Inputs), 1)
	w.WriteString(m.Text)
	for _, input := range m.Inputs {
		w.WriteString(input)
	}
	return w.String()
}

// A writer puts numbers and texts behind each other.
type writer struct {
	strings.Builder
}

// number writes n in so many bytes, the highest first.
func (w *writer) number(n, size int) {
	for i := size - 1; i >= 0; i-- {
		w.WriteByte(byte(n >> (8 * i)))
	}
}

// ReadMessage reads a message with a right seal.
func ReadMessage(s string, key string) (Message, bool) {
	m, err := openMessage(s, key)
	var fault *unread
	if errors.As(err, &fault) {
		return Message{}, false
	}
	return m, true
}

// An unread says why a text was not read.
type unread struct {
	why string
}

func (u *unread) Error() string {
	return "not read: " + u.why
}

func openMessage(s, key string) (Message, error) {
	if len(key) > MaxName {
		return Message{}, &unread{"its key is too long"}
	}
	if len(s) < sumBytes {
		return Message{}, &unread{"it is shorter than a seal"}
	}
	body := s[sumBytes:]
	if s[:sumBytes] != seal(body, key) {
		return Message{}, &unread{"its seal is wrong"}
	}
	return readBody(body)
}

func readBody(body string) (Message, error) {
	r := reader{rest: body}
	var m Message
	m.Kind = r.number(1)
	m.From = r.number(1)
	m.To = r.number(1)
	m.Epoch = r.number(2)
	m.Lease = r.number(4)
	m.Task = r.number(1)
	inputs := r.number(1)
	if isKind(m.Kind) && usages[m.Kind].text {
		m.Text = r.text(sumBytes)
	}
	for range inputs {
		m.Inputs = append(m.Inputs, r.text(sumBytes))
	}
	if err := r.end(); err != nil {
		return Message{}, err
	}
	if !validMessage(m) {
		return Message{}, &unread{"its body is not valid"}
	}
	return m, nil
}

// A reader takes numbers and texts from the front of rest. Its first fault stays, and it gives nothing from then on, so one look at the end is enough.
type reader struct {
	rest  string
	fault error
}

func (r *reader) text(size int) string {
	if r.fault == nil && len(r.rest) < size {
		r.fault = &unread{"it is cut short"}
	}
	if r.fault != nil {
		return ""
	}
	// A clone: an answer shares no memory with the text that was handed in.
	text := strings.Clone(r.rest[:size])
	r.rest = r.rest[size:]
	return text
}

// number reads one of so many bytes, the highest first.
func (r *reader) number(size int) int {
	n := 0
	text := r.text(size)
	for i := 0; i < len(text); i++ {
		n = n<<8 | int(text[i])
	}
	return n
}

func (r *reader) end() error {
	if r.fault == nil && r.rest != "" {
		r.fault = &unread{"it is too long"}
	}
	return r.fault
}
