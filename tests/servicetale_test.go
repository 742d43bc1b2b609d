package tests

import (
	"fmt"
	"math"
	"slices"
	"testing"

	"loop.example/g00220/impl"
)

// tale is a service whose acts are told by who is meant.
type tale struct {
	*modelService
	t *testing.T
}

func newTale(t *testing.T, size int) *tale {
	return &tale{ledService(size), t}
}

// want does an act, and asks for its code.
func (s *tale) want(a impl.ServiceAct, want int) {
	s.t.Helper()
	if code := s.do(a); code != want {
		s.t.Errorf("%+v at %d: %d, not %d", a, s.Time, code, want)
	}
}

// hand gives all that is on the wire from one to another.
func (s *tale) hand(from, to int) {
	for range 60 {
		at := slices.IndexFunc(s.Group.Wire, func(m impl.Message) bool { return m.From == from && m.To == to })
		if at < 0 {
			return
		}
		s.do(groupAct(wireAct(impl.GrGive, at)))
	}
}

// talk lets one node speak with others until they have nothing to say.
func (s *tale) talk(id int, others ...int) {
	for range 4 {
		for _, other := range others {
			s.hand(id, other)
			s.hand(other, id)
		}
	}
}

// lose takes all off the wire.
func (s *tale) lose() {
	for len(s.Group.Wire) > 0 {
		s.do(groupAct(wireAct(impl.GrLose, 0)))
	}
}

// stand lets a node wait until it leads, by the votes of some.
func (s *tale) stand(id int, voters ...int) {
	s.t.Helper()
	term := s.Group.Nodes[id].Term
	for range 20 {
		if s.Group.Nodes[id].Term == term {
			s.do(groupAct(tickAct(id, 3)))
		}
	}
	s.talk(id, voters...)
	if s.Group.Nodes[id].Role != impl.RoLeader {
		s.t.Fatalf("%d does not lead: %+v", id, s.Group.Nodes[id])
	}
}

// opened lets clients open their sessions at node 0, all nodes knowing it.
func (s *tale) opened(clients ...int) {
	s.t.Helper()
	for _, client := range clients {
		s.want(openAct(client, 0), impl.OK)
		s.drain()
		s.want(pollAct(client, 0), impl.OK)
	}
	s.ticks(0, 2)
	s.drain()
}

// ends holds the tale against ServiceRun, which must have told what one order tells, and these answers.
func (s *tale) ends(answers ...impl.Reply) {
	s.t.Helper()
	s.check(s.t, "a tale")
	got, _, _ := impl.ServiceRun(len(s.Group.Nodes), s.acts)
	checkOneOrder(s.t, "a tale", got)
	var told []impl.Reply
	for _, c := range got.Calls {
		told = append(told, c.Answer)
	}
	if !slices.Equal(told, answers) {
		s.t.Errorf("the answers are %+v, not %+v", told, answers)
	}
}

// A call whose leader is cut off stands in that one's log alone: nobody is told of it until it is told again to another leader, behind what others were told meanwhile.
func TestPromise14Lost(t *testing.T) {
	s := newTale(t, 3)
	s.opened(0, 1)
	s.want(callAct(0, 0, impl.CmAdd, "k", "a"), impl.OK)
	s.lose()
	s.want(pollAct(0, 0), impl.ErrAgain)
	s.stand(1, 2)
	s.want(retryAct(0, 0), impl.OK)
	s.want(pollAct(0, 0), impl.ErrAgain)
	s.lose()
	s.want(callAct(1, 0, impl.CmAdd, "k", "lost at first"), impl.OK)
	s.want(retryAct(1, 1), impl.OK)
	s.talk(1, 2)
	s.want(pollAct(1, 0), impl.ErrAgain)
	s.want(pollAct(0, 1), impl.ErrAgain)
	s.want(pollAct(1, 1), impl.OK)
	s.want(retryAct(0, 2), impl.ErrLeader)
	s.want(retryAct(0, 1), impl.OK)
	s.talk(1, 2, 0)
	s.want(retryAct(0, 0), impl.ErrLeader)
	s.want(pollAct(0, 2), impl.ErrAgain)
	s.want(pollAct(0, 1), impl.OK)
	s.ends(replyOf(impl.ReOK), replyOf(impl.ReOK), doneReply(2, "lost at firsta"), doneReply(1, "lost at first"))
}

// A call that a crashed leader had told one node of is told again to that one: it is committed twice, and done once, where it stood first.
func TestPromise14Twice(t *testing.T) {
	s := newTale(t, 3)
	s.opened(0, 1, 2)
	s.want(callAct(0, 0, impl.CmAdd, "k", "a"), impl.OK)
	s.hand(0, 1)
	s.want(groupAct(wireAct(impl.GrCrash, 0)), impl.OK)
	s.lose()
	s.stand(1, 2)
	s.want(callAct(1, 1, impl.CmAdd, "k", "b"), impl.OK)
	s.want(retryAct(0, 1), impl.OK)
	s.want(callAct(2, 1, impl.CmAdd, "k", "c"), impl.OK)
	s.want(retryAct(0, 1), impl.OK)
	s.talk(1, 2)
	s.want(pollAct(2, 1), impl.OK)
	s.want(pollAct(0, 1), impl.OK)
	s.want(pollAct(1, 1), impl.OK)
	first := string(commandForm(addOf(1, 1, "k", "a")))
	count := 0
	for _, data := range committedDataOf(s.Group) {
		if data == first {
			count++
		}
	}
	if count != 3 {
		t.Errorf("it is committed %d times", count)
	}
	ok := replyOf(impl.ReOK)
	s.ends(ok, ok, ok, doneReply(1, "a"), doneReply(2, "ab"), doneReply(3, "abc"))
}

// A leader that does not know of its end tells what was committed ahead of it, and nothing else.
func TestPromise14OldLeader(t *testing.T) {
	s := newTale(t, 3)
	s.opened(0, 1)
	s.want(callAct(0, 0, impl.CmPut, "k", "old"), impl.OK)
	s.talk(0, 1, 2)
	s.lose()
	s.stand(1, 2)
	s.want(callAct(1, 1, impl.CmPut, "k", "new"), impl.OK)
	s.talk(1, 2)
	s.want(pollAct(1, 1), impl.OK)
	if s.Group.Nodes[0].Role != impl.RoLeader {
		t.Fatalf("0 knows of its end: %+v", s.Group.Nodes[0])
	}
	s.want(pollAct(0, 0), impl.OK)
	s.want(callAct(0, 0, impl.CmAdd, "k", "!"), impl.OK)
	s.want(callAct(1, 0, impl.CmAdd, "k", "?"), impl.OK)
	s.want(pollAct(0, 0), impl.ErrAgain)
	s.want(pollAct(1, 0), impl.ErrAgain)
	s.want(retryAct(1, 1), impl.OK)
	s.talk(1, 2)
	s.want(pollAct(1, 0), impl.ErrAgain)
	s.want(pollAct(1, 1), impl.OK)
	ok := replyOf(impl.ReOK)
	s.ends(ok, ok, doneReply(1, "old"), doneReply(2, "new"), impl.Reply{}, doneReply(3, "new?"))
}

// A late poll: others were told much since, the answer is that of its own time; End is the poll's.
func TestPromise14LatePoll(t *testing.T) {
	s := newTale(t, 3)
	s.opened(0, 1)
	s.want(callAct(0, 0, impl.CmAdd, "k", "a"), impl.OK)
	begin := s.Time
	s.drain()
	for i := range 5 {
		s.want(callAct(1, 0, impl.CmAdd, "k", fmt.Sprint(i)), impl.OK)
		s.drain()
		s.want(pollAct(1, 0), impl.OK)
	}
	s.want(pollAct(0, 0), impl.OK)
	if c := s.Calls[2]; c.Begin != begin || c.End != s.Time {
		t.Errorf("the call is %+v", c)
	}
	ok := replyOf(impl.ReOK)
	s.ends(ok, ok, doneReply(1, "a"), doneReply(2, "a0"), doneReply(3, "a01"), doneReply(4, "a012"), doneReply(5, "a0123"), doneReply(6, "a01234"))
}

// A session that is opened at a leader whose entry is lost: what is called next waits for it, so that nothing is told of a session that is not there.
func TestPromise14Open(t *testing.T) {
	s := newTale(t, 3)
	s.want(openAct(2, 0), impl.OK)
	s.lose()
	s.want(callAct(2, 0, impl.CmPut, "k", "v"), impl.ErrTwice)
	s.stand(2, 1)
	s.want(callAct(2, 2, impl.CmPut, "k", "v"), impl.ErrTwice)
	s.want(retryAct(2, 2), impl.OK)
	s.talk(2, 1)
	s.want(pollAct(2, 2), impl.OK)
	s.want(callAct(2, 2, impl.CmPut, "k", "v"), impl.OK)
	s.talk(2, 1)
	s.want(pollAct(2, 2), impl.OK)
	s.ends(replyOf(impl.ReOK), doneReply(1, "v"))
}

// Members come while clients call: one that was none at first answers.
func TestPromise14Members(t *testing.T) {
	s := newTale(t, 4)
	s.opened(0)
	s.want(pollAct(0, 3), impl.ErrNone)
	s.want(callAct(0, 0, impl.CmPut, "k", "v"), impl.OK)
	s.want(groupAct(configAct(0, "\x00\x01\x02\x03")), impl.OK)
	s.want(pollAct(0, 3), impl.ErrAgain)
	s.talk(0, 1, 3)
	s.ticks(0, 2)
	s.talk(0, 1, 3)
	s.want(pollAct(0, 2), impl.ErrAgain)
	s.want(pollAct(0, 3), impl.OK)
	s.ends(replyOf(impl.ReOK), doneReply(1, "v"))
}

// givenService has calls that ended, one that did not, and something in every list of its group.
func givenService() *modelService {
	m := ledService(5)
	for _, client := range []int{0, 2} {
		m.do(openAct(client, 0))
		m.drain()
		m.do(pollAct(client, 0))
	}
	m.do(callAct(2, 0, impl.CmAdd, "k", "v"))
	m.drain()
	m.do(pollAct(2, 0))
	m.do(callAct(0, 0, impl.CmAdd, "l", "w"))
	m.do(openAct(1, 1))
	m.do(callAct(1, 0, 9, "", ""))
	m.do(groupAct(configAct(0, "\x00\x01\x02\x03")))
	m.do(groupAct(wireAct(impl.GrTwice, 0)))
	m.do(groupAct(wireAct(impl.GrGive, 1)))
	return m
}

// serviceActs are lists of acts, right and wrong ones.
func serviceActs() [][]impl.ServiceAct {
	acts := givenService().acts
	long := slices.Clone(acts)
	long[3].Value = sampleText(65537)
	return [][]impl.ServiceAct{nil, acts[:1], acts, long, slices.Repeat(acts[:1], 260), slices.Repeat(acts[:1], 261), make([]impl.ServiceAct, impl.MaxList+1), textActs("x"), textActs(sampleText(65536))}
}

// commandLists are lists of commands, right and wrong ones.
func commandLists() [][]impl.Command {
	right := slices.Concat(firstOpens(8), drawnCommands(112, 5, 3))
	wrong := slices.Clone(right)
	wrong[100].Kind = 9
	return [][]impl.Command{nil, right[:1], right[:60], right, wrong, slices.Repeat(right[:1], 121), slices.Repeat(right[:1], impl.MaxList+1)}
}

// callLists are lists of calls, of services and others.
func callLists() [][]impl.CallRecord {
	return [][]impl.CallRecord{nil, givenService().Calls, ended([2]int{0, -1}, [2]int{9, -1}, [2]int{2, 4}, [2]int{0, math.MinInt}), make([]impl.CallRecord, impl.MaxList+1)}
}

func TestPromise1ServiceArguments(t *testing.T) {
	for _, acts := range serviceActs() {
		for _, size := range []int{0, 1, 5} {
			checkListKept(t, "ServiceRun", acts, []impl.ServiceAct{{Kind: 9}, openAct(0, 0), groupAct(tickAct(0, 0))}, func(list []impl.ServiceAct) string { return fmt.Sprint(impl.ServiceRun(size, list)) })
		}
	}
	for _, list := range commandLists() {
		for _, c := range []impl.Command{openOf(1), putOf(1, 1, "k", "v"), drawnCommands(112, 5, 3)[40], {}, shutOf(9)} {
			checkListKept(t, "AnswerIn", list, []impl.Command{openOf(1), {}, putOf(1, 1, "k", "v")}, func(list []impl.Command) string { return fmt.Sprint(impl.AnswerIn(list, c)) })
		}
	}
	for _, calls := range callLists() {
		for client := -1; client <= 3; client++ {
			checkListKept(t, "PendingCall", calls, ended([2]int{0, -1}, [2]int{1, -1}, [2]int{2, -1}), func(list []impl.CallRecord) string { return fmt.Sprint(impl.PendingCall(list, client)) })
		}
	}
}

// No two lists of an answer share memory, nor do two answers, nor an answer and the acts.
func TestPromise1ServiceShares(t *testing.T) {
	m := givenService()
	acts := slices.Clone(m.acts)
	got, codes, _ := impl.ServiceRun(5, acts)
	again, codesAgain, _ := impl.ServiceRun(5, acts)
	clear(acts)
	if !sameService(got, m.Service) || !slices.Equal(codes, m.codes) {
		t.Errorf("the answer shares its acts")
	}
	if len(got.Calls) < 4 || len(got.Group.Wire) < 2 || len(got.Group.Leads) != 1 || len(got.Group.Dones) < 4 {
		t.Fatalf("the service has nothing in some list: %+v", got)
	}
	if !markedGroup(got.Group) {
		t.Errorf("two lists of the group share memory")
	}
	calls := got.Calls[:cap(got.Calls)]
	for i := range calls {
		calls[i] = impl.CallRecord{Client: 9}
	}
	for i := range codes[:cap(codes)] {
		codes[:cap(codes)][i] = 99
	}
	if slices.ContainsFunc(calls, func(c impl.CallRecord) bool { return c != impl.CallRecord{Client: 9} }) {
		t.Errorf("the codes are in the calls")
	}
	if !sameService(again, m.Service) || !slices.Equal(codesAgain, m.codes) {
		t.Errorf("two answers share memory")
	}
	if third, codes, _ := impl.ServiceRun(5, m.acts); !sameService(third, m.Service) || !slices.Equal(codes, m.codes) {
		t.Errorf("what is written into an answer is in the next one")
	}
}

func TestPromise1ServiceAlike(t *testing.T) {
	var calls []namedCall
	for i, acts := range serviceActs() {
		for _, size := range []int{-1, 0, 1, 3, 5, 6} {
			calls = append(calls, namedCall{fmt.Sprint("ServiceRun of ", size, ", list ", i), func() string { return fmt.Sprint(impl.ServiceRun(size, acts)) }})
		}
	}
	for i, list := range commandLists() {
		for _, c := range []impl.Command{openOf(1), putOf(1, 1, "k", "v"), drawnCommands(112, 5, 3)[40], {}, shutOf(9)} {
			calls = append(calls, namedCall{fmt.Sprint("AnswerIn of list ", i), func() string { return fmt.Sprint(impl.AnswerIn(list, c)) }})
		}
	}
	for i, list := range callLists() {
		for _, client := range []int{math.MinInt, -1, 0, 1, 2, 3, math.MaxInt} {
			calls = append(calls, namedCall{fmt.Sprint("PendingCall of list ", i), func() string { return fmt.Sprint(impl.PendingCall(list, client)) }})
		}
	}
	checkAlike(t, calls)
}

// An empty list is as good as none, also in what is answered.
func TestPromise1ServiceEmpty(t *testing.T) {
	for size := range 7 {
		x, xCodes, xCode := impl.ServiceRun(size, nil)
		y, yCodes, yCode := impl.ServiceRun(size, []impl.ServiceAct{})
		if !sameService(x, y) || len(xCodes)+len(yCodes) != 0 || xCode != yCode {
			t.Errorf("ServiceRun of %d: nil and empty lists are not the same", size)
		}
	}
	for _, c := range []impl.Command{openOf(1), {}} {
		x, xAt, xCode := impl.AnswerIn(nil, c)
		y, yAt, yCode := impl.AnswerIn([]impl.Command{}, c)
		if x != y || xAt != yAt || xCode != yCode {
			t.Errorf("AnswerIn: nil and empty lists are not the same")
		}
	}
	for client := -1; client <= 3; client++ {
		x, xCode := impl.PendingCall(nil, client)
		y, yCode := impl.PendingCall([]impl.CallRecord{}, client)
		if x != y || xCode != yCode {
			t.Errorf("PendingCall: nil and empty lists are not the same")
		}
	}
}

// What PendingCall answers of a service's calls is the call that a retry would be of.
func TestPendingCallServices(t *testing.T) {
	counts := map[int]int{}
	for seed := range 60 {
		r := &serviceRun{ledService(3), newDrawer(260*12, 9000+seed), -1, seed, map[string]int{}}
		for len(r.acts) < 14+seed*4 {
			r.step(r.act())
		}
		s, _, _ := impl.ServiceRun(3, r.acts)
		checkPending(t, fmt.Sprint("run ", seed), s.Calls)
		for client := range 3 {
			at, code := impl.PendingCall(s.Calls, client)
			_, codes, _ := impl.ServiceRun(3, append(slices.Clone(r.acts), callAct(client, 0, impl.CmPut, "k", "v")))
			if last := codes[len(codes)-1]; (code == impl.OK) != (last == impl.ErrTwice) || code == impl.OK && (s.Calls[at].Client != client || s.Calls[at].End != -1) {
				t.Errorf("run %d, client %d: PendingCall is %d, %d, the next call's code %d", seed, client, at, code, last)
			}
			counts[code]++
		}
	}
	if counts[impl.OK] < 20 || counts[impl.ErrNone] < 15 {
		t.Errorf("the counts are %v", counts)
	}
}
