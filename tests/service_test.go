package tests

import (
	"fmt"
	"math"
	"slices"
	"testing"

	"loop.example/g00220/impl"
)

func TestServiceConstants(t *testing.T) {
	got := []int{impl.MaxClients, impl.MaxCalls, impl.SvGroup, impl.SvCall, impl.SvRetry, impl.SvPoll}
	if want := []int{3, 200, 1, 2, 3, 4}; !slices.Equal(got, want) {
		t.Errorf("the constants are %d, not %d", got, want)
	}
}

func groupAct(a impl.GroupAct) impl.ServiceAct {
	return impl.ServiceAct{Kind: impl.SvGroup, Group: a}
}

func callAct(client, node, op int, key, value string) impl.ServiceAct {
	return impl.ServiceAct{Kind: impl.SvCall, Client: client, Node: node, Op: op, Key: key, Value: value}
}

func openAct(client, node int) impl.ServiceAct {
	return impl.ServiceAct{Kind: impl.SvCall, Client: client, Node: node}
}

func retryAct(client, node int) impl.ServiceAct {
	return impl.ServiceAct{Kind: impl.SvRetry, Client: client, Node: node}
}

func pollAct(client, node int) impl.ServiceAct {
	return impl.ServiceAct{Kind: impl.SvPoll, Client: client, Node: node}
}

func sameService(a, b impl.Service) bool {
	return sameGroup(a.Group, b.Group) && a.Time == b.Time && slices.Equal(a.Calls, b.Calls)
}

func zeroService(s impl.Service) bool {
	return sameService(s, impl.Service{})
}

// modelService is a service as the document tells it, with the acts that led to it and their codes.
type modelService struct {
	impl.Service
	acts  []impl.ServiceAct
	codes []int
}

func newService(size int) *modelService {
	g, _ := impl.NewGroup(size)
	return &modelService{Service: impl.Service{Group: g}}
}

func (m *modelService) do(a impl.ServiceAct) int {
	m.Time++
	code := m.codeOf(a)
	m.acts, m.codes = append(m.acts, a), append(m.codes, code)
	return code
}

// codeOf does an act, sentence by sentence.
func (m *modelService) codeOf(a impl.ServiceAct) int {
	if a.Kind == 1 {
		if a.Group.Kind == 5 {
			return impl.ErrForm
		}
		return m.groupDoes(a.Group)
	}
	if a.Kind != 2 && a.Kind != 3 && a.Kind != 4 {
		return impl.ErrForm
	}
	if a.Client < 0 || a.Client > 2 || a.Node < 0 || a.Node >= len(m.Group.Nodes) {
		return impl.ErrRange
	}
	if a.Kind == 2 {
		if code := m.noteCall(a); code != impl.OK {
			return code
		}
	}
	at := m.pending(a.Client)
	if at < 0 {
		return impl.ErrNone
	}
	if a.Kind == 4 {
		return m.pollOf(&m.Calls[at], m.Group.Nodes[a.Node])
	}
	return m.groupDoes(dataAct(a.Node, string(commandForm(m.Calls[at].Command))))
}

func (m *modelService) groupDoes(a impl.GroupAct) int {
	var code int
	m.Group, code = groupStepOf(m.Group, a)
	return code
}

func (m *modelService) pending(client int) int {
	out := -1
	for i, c := range m.Calls {
		if c.Client == client && c.End < 0 {
			out = i
		}
	}
	return out
}

func (m *modelService) noteCall(a impl.ServiceAct) int {
	if m.pending(a.Client) >= 0 {
		return impl.ErrTwice
	}
	before := 0
	for _, c := range m.Calls {
		if c.Client == a.Client {
			before++
		}
	}
	c := impl.Command{Kind: 4, Session: a.Client + 1}
	if before > 0 {
		c = impl.Command{Kind: a.Op, Session: a.Client + 1, Seq: before, Key: a.Key, Value: a.Value}
		if a.Op != 1 && a.Op != 2 && a.Op != 3 || !commandRight(c) {
			return impl.ErrBad
		}
	}
	if len(m.Calls) == 200 {
		return impl.ErrFull
	}
	m.Calls = append(m.Calls, impl.CallRecord{Client: a.Client, Begin: m.Time, End: -1, Command: c})
	return impl.OK
}

func (m *modelService) pollOf(call *impl.CallRecord, n impl.Node) int {
	reply, _, code := answerOf(commandsOf(n), call.Command)
	if !n.Up || code != impl.OK {
		return impl.ErrAgain
	}
	call.End, call.Answer = m.Time, reply
	return impl.OK
}

// answerOf is the document's answer of AnswerIn.
func answerOf(list []impl.Command, c impl.Command) (impl.Reply, int, int) {
	if len(list) > 4096 {
		return impl.Reply{}, 0, impl.ErrLong
	}
	if len(list) > 120 {
		return impl.Reply{}, 0, impl.ErrMany
	}
	for _, x := range append([]impl.Command{c}, list...) {
		if !commandRight(x) {
			return impl.Reply{}, 0, impl.ErrBad
		}
	}
	m := newModel()
	for i, x := range list {
		if reply := m.apply(x); x == c {
			return reply, i, impl.OK
		}
	}
	return impl.Reply{}, 0, impl.ErrNone
}

// check holds ServiceRun of all that the model did against the model.
func (m *modelService) check(t *testing.T, what string) {
	t.Helper()
	s, codes, code := impl.ServiceRun(len(m.Group.Nodes), m.acts)
	if code != impl.OK || !slices.Equal(codes, m.codes) {
		t.Errorf("%s: the codes are %d, %d, not %d", what, codes, code, m.codes)
	}
	if !slices.Equal(s.Calls, m.Calls) || s.Time != m.Time || s.Time != len(m.acts) {
		t.Errorf("%s: the calls are %+v at %d, not %+v at %d", what, s.Calls, s.Time, m.Calls, m.Time)
	}
	if !sameGroup(s.Group, m.Group) {
		t.Errorf("%s: the group is %+v, not %+v", what, s.Group, m.Group)
	}
}

// copyOfModel goes on apart from m.
func copyOfModel(m *modelService) *modelService {
	return &modelService{impl.Service{Group: copyOfGroup(m.Group), Time: m.Time, Calls: slices.Clone(m.Calls)}, slices.Clone(m.acts), slices.Clone(m.codes)}
}

// drain gives all that is on the wire, and all that comes of it.
func (m *modelService) drain() {
	for range 100 {
		if len(m.Group.Wire) > 0 {
			m.do(groupAct(wireAct(impl.GrGive, 0)))
		}
	}
}

// ticks lets a node wait.
func (m *modelService) ticks(node, n int) {
	for range n {
		m.do(groupAct(tickAct(node, 0)))
	}
}

// ledService is one in which node 0 leads, and all know it.
func ledService(size int) *modelService {
	m := newService(size)
	m.ticks(0, 5)
	m.drain()
	return m
}

// serviceRow is an act and the code that the document tells.
type serviceRow struct {
	a    impl.ServiceAct
	want int
}

// checkServiceRows does rows behind what a service did so far, and holds every beginning of them against the model.
func checkServiceRows(t *testing.T, what string, from *modelService, rows []serviceRow) *modelService {
	t.Helper()
	m := copyOfModel(from)
	for i, row := range rows {
		if code := m.do(row.a); code != row.want {
			t.Errorf("%s, %d: the model's code of %.200q is %d, not %d", what, i, fmt.Sprintf("%+v", row.a), code, row.want)
		}
		m.check(t, fmt.Sprint(what, ", ", i))
	}
	return m
}

func TestServiceKinds(t *testing.T) {
	led := ledService(3)
	var rows []serviceRow
	for _, kind := range []int{math.MinInt, -1, 0, 5, 6, 7, 8, 9, 255, 257, 1<<32 + 1, math.MaxInt} {
		rows = append(rows, serviceRow{impl.ServiceAct{Kind: kind}, impl.ErrForm},
			serviceRow{impl.ServiceAct{Kind: kind, Group: tickAct(0, 0), Op: impl.CmPut, Key: "k"}, impl.ErrForm},
			serviceRow{impl.ServiceAct{Kind: kind, Client: -1, Node: 9, Group: wireAct(9, 9)}, impl.ErrForm})
	}
	m := checkServiceRows(t, "kinds that are none", led, rows)
	if !sameGroup(m.Group, led.Group) || len(m.Calls) != 0 || m.Time != led.Time+len(rows) {
		t.Errorf("acts of no kind do something: %+v", m.Service)
	}
	checkServiceRows(t, "kinds that there are", led, []serviceRow{
		{groupAct(tickAct(0, 0)), impl.OK}, {openAct(0, 0), impl.OK}, {retryAct(0, 0), impl.OK}, {pollAct(0, 0), impl.ErrAgain},
	})
}

// Each of the group's acts has the group's code, whatever else the act has; a proposal is none of them.
func TestServiceGroupActs(t *testing.T) {
	led := ledService(5)
	m := checkServiceRows(t, "each", led, []serviceRow{
		{groupAct(tickAct(0, 0)), impl.OK}, {groupAct(tickAct(0, 0)), impl.OK}, {groupAct(wireAct(impl.GrTwice, 0)), impl.OK}, {groupAct(wireAct(impl.GrGive, 0)), impl.OK},
		{groupAct(wireAct(impl.GrLose, 0)), impl.OK}, {groupAct(configAct(0, "\x00\x01\x02\x03")), impl.OK}, {groupAct(wireAct(impl.GrCrash, 4)), impl.OK}, {groupAct(wireAct(impl.GrStart, 4)), impl.OK},
		{groupAct(wireAct(impl.GrStart, 4)), impl.ErrTwice}, {groupAct(wireAct(impl.GrStart, 5)), impl.ErrRange}, {groupAct(wireAct(impl.GrGive, 60)), impl.ErrRange}, {groupAct(wireAct(impl.GrGive, -1)), impl.ErrRange},
		{groupAct(tickAct(0, -1)), impl.ErrRange}, {groupAct(configAct(0, "")), impl.ErrBad}, {groupAct(configAct(1, "\x00")), impl.ErrLeader}, {groupAct(configAct(0, "\x00\x01")), impl.ErrConfig},
		{groupAct(impl.GroupAct{}), impl.ErrForm}, {groupAct(wireAct(9, 0)), impl.ErrForm}, {groupAct(wireAct(-1, 0)), impl.ErrForm}, {groupAct(wireAct(math.MaxInt, 0)), impl.ErrForm},
	})
	if len(m.Calls) != 0 || len(m.Group.Nodes[0].Log) != 2 {
		t.Errorf("the group's acts lead to %+v", m.Service)
	}
	var rows []serviceRow
	for _, n := range []int{-1, 0, 1, 4, 5, math.MaxInt} {
		for _, data := range []string{"", "x", sampleText(100), sampleText(101), string(commandForm(openOf(1)))} {
			rows = append(rows, serviceRow{groupAct(dataAct(n, data)), impl.ErrForm})
		}
	}
	m = checkServiceRows(t, "proposals", led, append(rows, serviceRow{groupAct(wireAct(impl.GrCrash, 0)), impl.OK}, serviceRow{groupAct(dataAct(0, "x")), impl.ErrForm}))
	if len(m.Group.Nodes[0].Log) != 1 {
		t.Errorf("a proposal of the group's is taken: %+v", m.Group.Nodes[0])
	}
	rows = nil
	for _, n := range []int{math.MinInt, -1, 3, 5, math.MaxInt} {
		a := impl.ServiceAct{Kind: impl.SvGroup, Client: n, Node: n, Group: tickAct(0, 0), Op: n, Key: sampleText(99), Value: sampleText(99)}
		rows = append(rows, serviceRow{a, impl.OK})
	}
	checkServiceRows(t, "what a group's act does not ask for", led, rows)
}

// The Client and the Node are asked for ahead of all else but the kind.
func TestServiceRange(t *testing.T) {
	for size := 1; size <= 5; size++ {
		var rows []serviceRow
		for kind := impl.SvCall; kind <= impl.SvPoll; kind++ {
			for _, client := range []int{math.MinInt, -1, 3, 4, 255, 1 << 32, math.MaxInt} {
				for _, node := range []int{-1, 0, size - 1, size} {
					rows = append(rows, serviceRow{impl.ServiceAct{Kind: kind, Client: client, Node: node, Op: impl.CmPut, Key: "k"}, impl.ErrRange})
				}
			}
			for _, node := range []int{math.MinInt, -1, size, size + 1, 7, 1 << 32, math.MaxInt} {
				for _, client := range []int{-1, 0, 2, 3} {
					rows = append(rows, serviceRow{impl.ServiceAct{Kind: kind, Client: client, Node: node, Op: 9}, impl.ErrRange})
				}
			}
		}
		m := newService(size)
		for _, row := range rows {
			if code := m.do(row.a); code != row.want {
				t.Errorf("%+v: the model's code is %d", row.a, code)
			}
		}
		m.check(t, fmt.Sprint("none of ", size))
		if fresh, _ := impl.NewGroup(size); len(m.Calls) != 0 || !sameGroup(m.Group, fresh) {
			t.Errorf("of %d: something is done: %+v", size, m.Service)
		}
	}
	for size := 1; size <= 5; size++ {
		m := checkServiceRows(t, "the first and the last", ledService(size), []serviceRow{
			{openAct(0, 0), impl.OK}, {retryAct(0, 0), impl.OK}, {openAct(2, 0), impl.OK}, {retryAct(2, -1), impl.ErrRange}, {pollAct(2, size), impl.ErrRange}, {pollAct(-1, 0), impl.ErrRange}, {retryAct(3, 0), impl.ErrRange},
			{openAct(0, -1), impl.ErrRange}, {openAct(2, size), impl.ErrRange}, {openAct(3, 0), impl.ErrRange}, {openAct(0, size-1), impl.ErrTwice},
		})
		m.drain()
		m.ticks(0, 2)
		m.drain()
		checkServiceRows(t, "the last node answers", m, []serviceRow{{pollAct(0, min(size, 3)-1), impl.OK}, {pollAct(2, min(size, 3)-1), impl.OK}, {pollAct(2, min(size, 3)-1), impl.ErrNone}})
	}
}

// What a call asks for: the first one opens the session, whatever its Op, Key and Value are; then Op counts.
func TestServiceCalls(t *testing.T) {
	led := ledService(1)
	for client := range 3 {
		for _, a := range []impl.ServiceAct{openAct(client, 0), callAct(client, 0, impl.CmPut, "k", "v"), callAct(client, 0, impl.CmShut, "", ""), callAct(client, 0, -7, sampleText(300), sampleText(300)), callAct(client, 0, math.MaxInt, "", "x")} {
			m := checkServiceRows(t, "a first call", led, []serviceRow{
				{a, impl.OK}, {callAct(client, 0, impl.CmPut, "k", "v"), impl.ErrTwice}, {callAct(client, 0, 9, "", ""), impl.ErrTwice}, {pollAct(client, 0), impl.OK},
				{callAct(client, 0, impl.CmPut, "k", "v"), impl.OK}, {callAct(client, 0, 9, "", ""), impl.ErrTwice}, {pollAct(client, 0), impl.OK},
				{callAct(client, 0, impl.CmAdd, "k", "w"), impl.OK}, {pollAct(client, 0), impl.OK}, {callAct(client, 0, impl.CmDrop, "k", ""), impl.OK}, {pollAct(client, 0), impl.OK},
				{callAct(client, 0, impl.CmDrop, "k", ""), impl.OK}, {pollAct(client, 0), impl.OK},
			})
			want := []impl.CallRecord{
				{Client: client, Begin: 6, End: 9, Command: openOf(client + 1), Answer: replyOf(impl.ReOK)},
				{Client: client, Begin: 10, End: 12, Command: putOf(client+1, 1, "k", "v"), Answer: doneReply(1, "v")},
				{Client: client, Begin: 13, End: 14, Command: addOf(client+1, 2, "k", "w"), Answer: doneReply(2, "vw")},
				{Client: client, Begin: 15, End: 16, Command: dropOf(client+1, 3, "k"), Answer: doneReply(3, "vw")},
				{Client: client, Begin: 17, End: 18, Command: dropOf(client+1, 4, "k"), Answer: replyOf(impl.ReNone)},
			}
			if !slices.Equal(m.Calls, want) {
				t.Errorf("client %d: the calls are %+v", client, m.Calls)
			}
		}
	}
}

// callEdges are calls that are not a first one's, at the edges of what is right.
func callEdges() []impl.ServiceAct {
	var out []impl.ServiceAct
	for _, op := range []int{math.MinInt, -1, 0, 1, 2, 3, 4, 5, 6, 257, 1<<32 + 1, math.MaxInt} {
		for _, key := range []int{0, 1, 24, 25, 256, 65536} {
			for _, value := range []int{0, 1, 60, 61, 256, 65536} {
				out = append(out, callAct(1, 0, op, sampleText(key), sampleText(value)))
			}
		}
	}
	return append(out, callAct(1, 0, impl.CmOpen, "", ""), callAct(1, 0, impl.CmShut, "", ""))
}

func TestServiceCallsRight(t *testing.T) {
	open := ledService(1)
	open.do(openAct(1, 0))
	open.do(pollAct(1, 0))
	counts := map[int]int{}
	for _, a := range callEdges() {
		m := copyOfModel(open)
		code := m.do(a)
		counts[code]++
		what := fmt.Sprintf("Op %d, a Key of %d, a Value of %d", a.Op, len(a.Key), len(a.Value))
		right := (a.Op == 1 || a.Op == 2) && len(a.Key) >= 1 && len(a.Key) <= 24 && len(a.Value) <= 60 || a.Op == 3 && len(a.Key) >= 1 && len(a.Key) <= 24 && a.Value == ""
		if code != map[bool]int{true: impl.OK, false: impl.ErrBad}[right] {
			t.Errorf("%s: the model's code is %d", what, code)
		}
		m.do(callAct(1, 0, impl.CmAdd, "other", "x"))
		m.do(pollAct(1, 0))
		m.check(t, what)
		c := m.Calls[1].Command
		if right && (len(m.Calls) != 2 || c.Kind != a.Op || c.Key != a.Key || c.Value != a.Value) || !right && c != addOf(2, 1, "other", "x") || c.Seq != 1 || c.Session != 2 {
			t.Errorf("%s: the calls are %.300q", what, fmt.Sprint(m.Calls))
		}
	}
	if counts[impl.OK] != 14 || counts[impl.ErrBad] < 100 {
		t.Errorf("the counts are %v", counts)
	}
}

// A call that has not ended is asked for ahead of what the next one would be; the node's faults come behind what the call is.
func TestServiceCallFaults(t *testing.T) {
	led := ledService(3)
	bad, late := callAct(0, 0, 9, "", ""), callAct(0, 1, impl.CmPut, "k", "v")
	m := checkServiceRows(t, "faults", led, []serviceRow{
		{openAct(0, 1), impl.ErrLeader}, {bad, impl.ErrTwice}, {late, impl.ErrTwice}, {pollAct(0, 0), impl.ErrAgain}, {retryAct(0, 1), impl.ErrLeader}, {groupAct(wireAct(impl.GrCrash, 1)), impl.OK},
		{retryAct(0, 1), impl.ErrNone}, {pollAct(0, 1), impl.ErrAgain}, {openAct(1, 1), impl.ErrNone}, {bad, impl.ErrTwice}, {retryAct(0, 0), impl.OK}, {openAct(2, 2), impl.ErrLeader},
	})
	if len(m.Calls) != 3 || m.Calls[0].Begin != led.Time+1 || m.Calls[1].Begin != led.Time+9 || m.Calls[2].Begin != led.Time+12 {
		t.Errorf("the calls are %+v", m.Calls)
	}
	m.drain()
	m = checkServiceRows(t, "faults of a second call", m, []serviceRow{
		{pollAct(0, 0), impl.OK}, {callAct(0, 1, 9, "k", "v"), impl.ErrBad}, {callAct(0, 2, impl.CmDrop, "k", "v"), impl.ErrBad}, {callAct(0, 3, 9, "k", "v"), impl.ErrRange},
		{retryAct(0, 0), impl.ErrNone}, {retryAct(0, 1), impl.ErrNone}, {pollAct(0, 1), impl.ErrNone}, {callAct(0, 1, impl.CmPut, "k", "v"), impl.ErrNone}, {callAct(0, 0, impl.CmPut, "k", "v"), impl.ErrTwice}, {retryAct(0, 2), impl.ErrLeader},
	})
	if len(m.Calls) != 4 || m.Calls[3].Command != putOf(1, 1, "k", "v") || m.Calls[3].End != -1 {
		t.Errorf("the calls are %+v", m.Calls)
	}
}

// Neither a retry nor a poll does anything ahead of the first call, nor behind one that has ended; each looks at its own client's calls alone.
func TestServicePending(t *testing.T) {
	none := checkServiceRows(t, "no call", ledService(1), []serviceRow{{retryAct(0, 0), impl.ErrNone}, {pollAct(0, 0), impl.ErrNone}, {retryAct(2, 0), impl.ErrNone}, {pollAct(2, 0), impl.ErrNone}})
	if len(none.Calls) != 0 || len(none.Group.Nodes[0].Log) != 1 {
		t.Errorf("something is done: %+v", none.Service)
	}
	m := checkServiceRows(t, "others' calls", none, []serviceRow{
		{openAct(1, 0), impl.OK}, {retryAct(0, 0), impl.ErrNone}, {pollAct(0, 0), impl.ErrNone}, {pollAct(2, 0), impl.ErrNone}, {pollAct(1, 0), impl.OK}, {pollAct(1, 0), impl.ErrNone}, {retryAct(1, 0), impl.ErrNone},
		{openAct(2, 0), impl.OK}, {openAct(0, 0), impl.OK}, {callAct(1, 0, impl.CmPut, "k", "v"), impl.OK}, {pollAct(0, 0), impl.OK}, {pollAct(0, 0), impl.ErrNone}, {retryAct(2, 0), impl.OK}, {pollAct(1, 0), impl.OK}, {pollAct(2, 0), impl.OK},
		{pollAct(0, 0), impl.ErrNone}, {pollAct(1, 0), impl.ErrNone}, {pollAct(2, 0), impl.ErrNone},
	})
	want := []impl.CallRecord{
		{Client: 1, Begin: 10, End: 14, Command: openOf(2), Answer: replyOf(impl.ReOK)},
		{Client: 2, Begin: 17, End: 24, Command: openOf(3), Answer: replyOf(impl.ReOK)},
		{Client: 0, Begin: 18, End: 20, Command: openOf(1), Answer: replyOf(impl.ReOK)},
		{Client: 1, Begin: 19, End: 23, Command: putOf(2, 1, "k", "v"), Answer: doneReply(1, "v")},
	}
	if !slices.Equal(m.Calls, want) {
		t.Errorf("the calls are %+v", m.Calls)
	}
}

// Acts that have a code take their time as well.
func TestServiceTimes(t *testing.T) {
	led := ledService(1)
	wrong := []serviceRow{{impl.ServiceAct{}, impl.ErrForm}, {groupAct(dataAct(0, "x")), impl.ErrForm}, {groupAct(tickAct(1, 0)), impl.ErrRange}, {pollAct(3, 0), impl.ErrRange}, {retryAct(2, 0), impl.ErrNone}}
	at := led.Time
	m := led
	var want []impl.CallRecord
	for i := range 6 {
		m = checkServiceRows(t, "wrong acts", m, wrong[:i%6])
		at += i % 6
		a, c, answer := openAct(0, 0), openOf(1), replyOf(impl.ReOK)
		if i > 0 {
			a, c, answer = callAct(0, 0, impl.CmPut, "k", fmt.Sprint(i)), putOf(1, i, "k", fmt.Sprint(i)), doneReply(i, fmt.Sprint(i))
		}
		m = checkServiceRows(t, "a call", m, append([]serviceRow{{a, impl.OK}, {callAct(0, 0, 1, "k", ""), impl.ErrTwice}}, append(slices.Clone(wrong[:5-i]), serviceRow{pollAct(0, 0), impl.OK})...))
		want = append(want, impl.CallRecord{Client: 0, Begin: at + 1, End: at + 3 + 5 - i, Command: c, Answer: answer})
		at += 3 + 5 - i
	}
	if !slices.Equal(m.Calls, want) || m.Time != at {
		t.Errorf("the calls are %+v at %d, not %+v at %d", m.Calls, m.Time, want, at)
	}
}

// A log as full as it may be: the call is noted all the same, and can never end.
func TestServiceFull(t *testing.T) {
	m := ledService(1)
	for i := range 59 {
		m.do([]impl.ServiceAct{openAct(0, 0), callAct(0, 0, impl.CmPut, fmt.Sprint("key ", i%9), fmt.Sprint(i))}[min(i, 1)])
		if code := m.do(pollAct(0, 0)); code != impl.OK {
			t.Fatalf("call %d: %d", i, code)
		}
	}
	rows := []serviceRow{
		{callAct(0, 0, impl.CmPut, "k", "v"), impl.ErrFull}, {pollAct(0, 0), impl.ErrAgain}, {retryAct(0, 0), impl.ErrFull}, {callAct(0, 0, impl.CmPut, "k", "v"), impl.ErrTwice},
		{openAct(1, 0), impl.ErrFull}, {openAct(1, 0), impl.ErrTwice}, {retryAct(1, 0), impl.ErrFull}, {openAct(2, 0), impl.ErrFull}, {pollAct(2, 0), impl.ErrAgain}, {pollAct(1, 0), impl.ErrAgain},
	}
	m = checkServiceRows(t, "a full log", m, rows)
	if len(m.Calls) != 62 || len(m.Group.Nodes[0].Log) != 60 || m.Calls[58].Answer != replyOf(impl.ReFull) || m.Calls[50].Answer != doneReply(50, "50") || m.Calls[59].Command != putOf(1, 59, "k", "v") || m.Calls[61].Command != openOf(3) {
		t.Errorf("the calls are %+v", m.Calls)
	}
	for _, c := range m.Calls[59:] {
		if c.End != -1 || c.Answer != (impl.Reply{}) || c.Begin < 100 {
			t.Errorf("the call is %+v", c)
		}
	}
}

// Who knows what is committed, answers: not one that has it in its log alone, nor one that is not Up, nor one that forgot it in a crash.
func TestServicePolls(t *testing.T) {
	m := checkServiceRows(t, "nobody knows yet", ledService(3), []serviceRow{{openAct(0, 0), impl.OK}, {pollAct(0, 0), impl.ErrAgain}, {pollAct(0, 1), impl.ErrAgain}, {pollAct(0, 2), impl.ErrAgain}})
	if len(m.Group.Nodes[0].Log) != 2 {
		t.Fatalf("0 has %+v", m.Group.Nodes[0].Log)
	}
	m.do(groupAct(wireAct(impl.GrGive, 0)))
	m = checkServiceRows(t, "two have it", m, []serviceRow{{pollAct(0, 0), impl.ErrAgain}, {pollAct(0, 1), impl.ErrAgain}})
	m.drain()
	knows := m
	checkServiceRows(t, "0 knows", knows, []serviceRow{{pollAct(0, 1), impl.ErrAgain}, {pollAct(0, 2), impl.ErrAgain}, {pollAct(0, 0), impl.OK}, {pollAct(0, 0), impl.ErrNone}})
	m = checkServiceRows(t, "0 crashes", knows, []serviceRow{
		{groupAct(wireAct(impl.GrCrash, 0)), impl.OK}, {pollAct(0, 0), impl.ErrAgain}, {groupAct(wireAct(impl.GrStart, 0)), impl.OK}, {pollAct(0, 0), impl.ErrAgain}, {pollAct(0, 1), impl.ErrAgain},
	})
	if log := m.Group.Nodes[0].Log; len(log) != 2 || log[1].Data != string(commandForm(openOf(1))) {
		t.Errorf("0 has %+v", log)
	}
	m.ticks(1, 6)
	m.drain()
	m = checkServiceRows(t, "1 leads, and knows", m, []serviceRow{{pollAct(0, 0), impl.ErrAgain}, {pollAct(0, 2), impl.ErrAgain}, {pollAct(0, 1), impl.OK}})
	if c := m.Calls[0]; c.Answer != replyOf(impl.ReOK) || c.End != m.Time || m.Group.Nodes[1].Role != impl.RoLeader {
		t.Errorf("the call is %+v, of %+v", c, m.Group.Nodes[1])
	}
	knows.ticks(0, 2)
	knows.drain()
	for node := range 3 {
		checkServiceRows(t, "all know", knows, []serviceRow{{pollAct(0, node), impl.OK}})
		checkServiceRows(t, "all know, and it is not Up", knows, []serviceRow{{groupAct(wireAct(impl.GrCrash, node)), impl.OK}, {pollAct(0, node), impl.ErrAgain}})
	}
}

// A command that is committed several times is answered as the first one was, though others were between.
func TestServiceRetries(t *testing.T) {
	m := checkServiceRows(t, "an open told twice", ledService(1), []serviceRow{{openAct(0, 0), impl.OK}, {retryAct(0, 0), impl.OK}, {retryAct(0, 0), impl.OK}, {pollAct(0, 0), impl.OK}, {openAct(1, 0), impl.OK}, {pollAct(1, 0), impl.OK}})
	if m.Calls[0].Answer != replyOf(impl.ReOK) || len(commandsOf(m.Group.Nodes[0])) != 4 {
		t.Errorf("the call is %+v", m.Calls[0])
	}
	m = checkServiceRows(t, "an add told twice", m, []serviceRow{
		{callAct(0, 0, impl.CmAdd, "k", "a"), impl.OK}, {callAct(1, 0, impl.CmAdd, "k", "b"), impl.OK}, {retryAct(0, 0), impl.OK}, {retryAct(1, 0), impl.OK}, {retryAct(0, 0), impl.OK}, {pollAct(1, 0), impl.OK}, {pollAct(0, 0), impl.OK},
		{callAct(1, 0, impl.CmDrop, "k", ""), impl.OK}, {retryAct(1, 0), impl.OK}, {pollAct(1, 0), impl.OK}, {callAct(0, 0, impl.CmDrop, "k", ""), impl.OK}, {retryAct(0, 0), impl.OK}, {pollAct(0, 0), impl.OK},
	})
	want := []impl.Reply{replyOf(impl.ReOK), replyOf(impl.ReOK), doneReply(1, "a"), doneReply(2, "ab"), doneReply(3, "ab"), replyOf(impl.ReNone)}
	for i, c := range m.Calls {
		if c.Answer != want[i] {
			t.Errorf("call %d is %+v", i, c)
		}
	}
	if l, code := impl.ApplyNode(m.Group.Nodes[0]); len(l.Leaves) != 3 || code != impl.OK {
		t.Errorf("what is done: %+v, %d", l, code)
	}
}

func TestServiceRunArguments(t *testing.T) {
	acts := slices.Repeat([]impl.ServiceAct{groupAct(tickAct(0, 0))}, impl.MaxList+2)
	for size := 1; size <= 5; size++ {
		for _, count := range []int{0, 1, 5, 259, 260} {
			m := newService(size)
			for range count {
				m.do(acts[0])
			}
			m.check(t, fmt.Sprint(count, " acts of ", size))
		}
		fresh, _ := impl.NewGroup(size)
		if s, codes, code := impl.ServiceRun(size, nil); !sameService(s, impl.Service{Group: fresh}) || len(codes) != 0 || code != impl.OK {
			t.Errorf("no acts of %d: %+v, %d, %d", size, s, codes, code)
		}
	}
	for size := 1; size <= 5; size++ {
		for _, count := range []int{261, 262, impl.MaxList} {
			checkNoService(t, size, acts[:count], impl.ErrMany)
		}
	}
	for _, size := range []int{math.MinInt, -1, 0, 6, 7, 1<<32 + 3, math.MaxInt} {
		for _, count := range []int{0, 1, 260, 261, impl.MaxList} {
			checkNoService(t, size, acts[:count], impl.ErrRange)
		}
	}
	for _, size := range []int{-1, 0, 1, 3, 5, 6} {
		checkNoService(t, size, acts[:impl.MaxList+1], impl.ErrLong)
		checkNoService(t, size, acts[:impl.MaxList+2], impl.ErrLong)
	}
}

func checkNoService(t *testing.T, size int, acts []impl.ServiceAct, want int) {
	t.Helper()
	if s, codes, code := impl.ServiceRun(size, acts); !zeroService(s) || len(codes) != 0 || code != want {
		t.Errorf("ServiceRun of %d, %d acts: %.200q, %d, %d, not %d", size, len(acts), fmt.Sprint(s), codes, code, want)
	}
}

// textActs are acts of each kind, and of none, with a text in one of the three places.
func textActs(text string) []impl.ServiceAct {
	var out []impl.ServiceAct
	for kind := range 6 {
		for op := range 6 {
			a := impl.ServiceAct{Kind: kind, Op: op}
			a.Group.Kind = op
			for place := range 3 {
				b := a
				*[]*string{&b.Group.Data, &b.Key, &b.Value}[place] = text
				out = append(out, b)
			}
		}
	}
	return out
}

func TestServiceRunTexts(t *testing.T) {
	for _, a := range textActs(sampleText(65537)) {
		for _, count := range []int{1, 2, 260, 261, 300} {
			for _, at := range []int{0, count / 2, count - 1} {
				acts := slices.Repeat([]impl.ServiceAct{groupAct(tickAct(0, 0))}, count)
				acts[at] = a
				checkNoService(t, []int{1, 3, 5, 0, 6, -1}[(count+at+a.Op)%6], acts, impl.ErrLong)
			}
		}
	}
	open := ledService(1)
	open.do(openAct(0, 0))
	open.do(pollAct(0, 0))
	for _, a := range textActs(sampleText(65536)) {
		m := copyOfModel(open)
		m.do(a)
		m.check(t, fmt.Sprintf("65536 bytes: kind %d, Op %d", a.Kind, a.Op))
		checkNoService(t, 0, []impl.ServiceAct{a}, impl.ErrRange)
		checkNoService(t, 3, slices.Repeat([]impl.ServiceAct{a}, 261), impl.ErrMany)
	}
}
