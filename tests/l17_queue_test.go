package tests

import (
	"cmp"
	"math"
	"math/rand/v2"
	"slices"
	"strconv"
	"testing"

	"loop.example/g00511/impl"
)

// The deadlines of messages have the limits of goodEnds and notEnds.
var (
	destinations    = append(upTo(16), 63)
	notDestinations = slices.DeleteFunc(slices.Clone(notStations), func(v int) bool { return v == 63 })
	goodDropped     = []int{0, 1, 2, 12, 1 << 32, mostUntil, mostUntil + 1, math.MaxInt - 1, math.MaxInt}
	notDropped      = []int{-1, -2, -12, -1 << 32, math.MinInt, math.MinInt + 1}
	// farCategories are numbers that are in the order of urgency, too; only the middle ones are categories.
	farCategories = []int{math.MinInt, math.MinInt + 1, -1 << 32, -2, -1, 0, 1, 2, 3, 4, 5, 255, 1 << 32, math.MaxInt - 1, math.MaxInt}
)

// numberedMessage returns a valid message (if the category is one) that no other number has.
func numberedMessage(number int, category int) impl.Message {
	to := destinations[number%len(destinations)]
	return impl.Message{To: to, Category: category, Deadline: 1000 + number, Body: []byte(strconv.Itoa(number))}
}

// queueOf returns a queue of messages with these categories that are numbered from 0 on.
func queueOf(dropped int, categories ...int) impl.TransmitQueue {
	q := impl.TransmitQueue{Dropped: dropped}
	for i, category := range categories {
		q.Messages = append(q.Messages, numberedMessage(i, category))
	}
	return q
}

// queueUntil returns a queue of messages with these deadlines.
func queueUntil(dropped int, deadlines ...int) impl.TransmitQueue {
	q := queueOf(dropped, make([]int, len(deadlines))...)
	for i, deadline := range deadlines {
		q.Messages[i].Deadline = deadline
		q.Messages[i].Category = i % 4
	}
	return q
}

// picked returns the messages at these indices.
func picked(messages []impl.Message, indices ...int) []impl.Message {
	list := []impl.Message{}
	for _, i := range indices {
		list = append(list, messages[i])
	}
	return list
}

// without returns the messages but the one at the index.
func without(messages []impl.Message, index int) []impl.Message {
	return slices.Concat(messages[:index], messages[index+1:])
}

func sameMessage(a impl.Message, b impl.Message) bool {
	return slices.Equal(a.Body, b.Body) && [3]int{a.To, a.Category, a.Deadline} == [3]int{b.To, b.Category, b.Deadline}
}

func sameQueue(a impl.TransmitQueue, b impl.TransmitQueue) bool {
	return a.Dropped == b.Dropped && slices.EqualFunc(a.Messages, b.Messages, sameMessage)
}

func validMessageReference(m impl.Message) bool {
	if !slices.Contains(destinations, m.To) || !slices.Contains(upTo(4), m.Category) {
		return false
	}
	return m.Deadline == max(0, min(m.Deadline, mostUntil)) && len(m.Body) < 101
}

func validQueueReference(q impl.TransmitQueue) bool {
	invalid := func(m impl.Message) bool { return !validMessageReference(m) }
	return len(q.Messages) < 13 && q.Dropped > -1 && !slices.ContainsFunc(q.Messages, invalid)
}

// byUrgency are the indices of the messages in the order in which they are taken.
func byUrgency(messages []impl.Message) []int {
	order := upTo(len(messages))
	slices.SortStableFunc(order, func(i int, j int) int { return cmp.Compare(messages[j].Category, messages[i].Category) })
	return order
}

// enqueuedReference drops the message that would be taken as the last one.
func enqueuedReference(q impl.TransmitQueue, m impl.Message) impl.TransmitQueue {
	if !validQueueReference(q) || !validMessageReference(m) {
		return q
	}
	all := append(slices.Clone(q.Messages), m)
	if len(all) == 13 {
		return impl.TransmitQueue{Messages: without(all, byUrgency(all)[12]), Dropped: q.Dropped + 1}
	}
	return impl.TransmitQueue{Messages: all, Dropped: q.Dropped}
}

func nextMessageReference(q impl.TransmitQueue) int {
	return append(byUrgency(q.Messages), -1)[0]
}

func takenReference(q impl.TransmitQueue, index int) (impl.TransmitQueue, impl.Message, bool) {
	if !slices.Contains(upTo(len(q.Messages)), index) {
		return q, impl.Message{}, false
	}
	return impl.TransmitQueue{Messages: without(q.Messages, index), Dropped: q.Dropped}, q.Messages[index], true
}

// expiredReference adds the difference of the lengths, and the sum wraps around.
func expiredReference(q impl.TransmitQueue, now int) impl.TransmitQueue {
	left := slices.DeleteFunc(slices.Clone(q.Messages), func(m impl.Message) bool { return cmp.Compare(now, m.Deadline) == 1 })
	return impl.TransmitQueue{Messages: left, Dropped: q.Dropped + len(q.Messages) - len(left)}
}

// spoiltMessages are copies of the message, each with one field out of range.
func spoiltMessages(m impl.Message) []impl.Message {
	list := []impl.Message{}
	add := func(values []int, set func(*impl.Message, int)) {
		for _, v := range values {
			changed := m
			set(&changed, v)
			list = append(list, changed)
		}
	}
	add(notDestinations, func(m *impl.Message, v int) { m.To = v })
	add(notCategories, func(m *impl.Message, v int) { m.Category = v })
	add(notEnds, func(m *impl.Message, v int) { m.Deadline = v })
	add([]int{101, 102, 127, 128, 356, 65536}, func(m *impl.Message, v int) { m.Body = make([]byte, v) })
	return list
}

// spoiltQueues are queues that are invalid in one way alone.
func spoiltQueues() []impl.TransmitQueue {
	list := []impl.TransmitQueue{}
	for _, count := range []int{13, 14, 20, 24, 256, 268} {
		list = append(list, queueOf(0, make([]int, count)...), queueOf(7, slices.Repeat([]int{3}, count)...))
	}
	for _, dropped := range notDropped {
		list = append(list, queueOf(dropped), queueOf(dropped, 1), queueOf(dropped, 2, 0, 3), queueOf(dropped, make([]int, 12)...))
	}
	for _, count := range []int{1, 3, 11, 12} {
		for _, place := range []int{0, count / 2, count - 1} {
			q := queueOf(5, slices.Repeat([]int{2}, count)...)
			for _, m := range spoiltMessages(q.Messages[place]) {
				messages := slices.Clone(q.Messages)
				messages[place] = m
				list = append(list, impl.TransmitQueue{Messages: messages, Dropped: 5})
			}
		}
	}
	return list
}

// validQueues are queues of every length, with the categories in many orders.
func validQueues() []impl.TransmitQueue {
	list := []impl.TransmitQueue{{}, {Messages: []impl.Message{}}, {Messages: []impl.Message{{}}}}
	for count := range 13 {
		for step := range 8 {
			categories := []int{}
			for i := range count {
				categories = append(categories, (i*step+i/3+step)%4)
			}
			list = append(list, queueOf(goodDropped[(count+step)%len(goodDropped)], categories...))
		}
		list = append(list, queueUntil(count, slices.Repeat(goodEnds, 2)[:count]...))
	}
	return list
}

// farQueues are invalid queues with many messages and numbers that are no categories.
func farQueues() []impl.TransmitQueue {
	backward := slices.Clone(farCategories)
	slices.Reverse(backward)
	return []impl.TransmitQueue{
		queueOf(0, farCategories...), queueOf(-1, backward...), queueOf(math.MaxInt, slices.Concat(farCategories, backward)...), queueOf(math.MinInt, slices.Concat(backward, farCategories)...),
		queueOf(3, -5, -3, -5, -3, -9), queueOf(3, math.MinInt), queueOf(3, math.MinInt, math.MinInt), queueOf(3, math.MinInt, math.MaxInt), queueOf(3, math.MaxInt, math.MinInt, math.MaxInt),
		queueOf(3, slices.Repeat([]int{0, 1, 2, 3}, 10)...), queueOf(3, slices.Repeat([]int{3, 3, 1}, 10)...), queueOf(-3, slices.Repeat(farCategories, 20)...), queueUntil(-7, slices.Concat(notEnds, goodEnds, notEnds)...),
	}
}

func allQueues() []impl.TransmitQueue {
	return slices.Concat(validQueues(), spoiltQueues(), farQueues())
}

// fullPatterns are the categories of full queues: each choice of two categories in each order.
func fullPatterns(visit func(categories []int)) {
	for _, pair := range [][2]int{{0, 1}, {0, 2}, {0, 3}, {1, 2}, {1, 3}, {2, 3}} {
		for bits := range 1 << 12 {
			categories := []int{}
			for i := range 12 {
				categories = append(categories, pair[bits>>i&1])
			}
			visit(categories)
		}
	}
}

func randomCategories(random *rand.Rand, count int) []int {
	list := []int{}
	least := random.IntN(4)
	for range count {
		list = append(list, least+random.IntN(4-least))
	}
	return list
}

func expectValidMessage(t *testing.T, m impl.Message, want bool) {
	t.Helper()
	if got := impl.IsValidMessage(m); got != want {
		t.Errorf("IsValidMessage(%v) is %v", m, got)
	}
}

func expectValidQueue(t *testing.T, q impl.TransmitQueue, want bool) {
	t.Helper()
	if got := impl.IsValidQueue(q); got != want {
		t.Errorf("IsValidQueue(%v) is %v", q, got)
	}
}

func expectEnqueued(t *testing.T, q impl.TransmitQueue, m impl.Message, want impl.TransmitQueue) {
	t.Helper()
	if got := impl.EnqueueMessage(q, m); !sameQueue(got, want) {
		t.Errorf("EnqueueMessage(%v, %v) is %v, not %v", q, m, got, want)
	}
}

func expectNextMessage(t *testing.T, q impl.TransmitQueue, want int) {
	t.Helper()
	if got := impl.NextMessage(q); got != want {
		t.Errorf("NextMessage(%v) is %d, not %d", q, got, want)
	}
}

func expectTaken(t *testing.T, q impl.TransmitQueue, index int, left impl.TransmitQueue, m impl.Message, ok bool) {
	t.Helper()
	if gotLeft, gotM, gotOK := impl.TakeMessage(q, index); !sameQueue(gotLeft, left) || !sameMessage(gotM, m) || gotOK != ok {
		t.Errorf("TakeMessage(%v, %d) is %v, %v, %v, not %v, %v, %v", q, index, gotLeft, gotM, gotOK, left, m, ok)
	}
}

func expectExpired(t *testing.T, q impl.TransmitQueue, now int, want impl.TransmitQueue) {
	t.Helper()
	if got := impl.ExpireMessages(q, now); !sameQueue(got, want) {
		t.Errorf("ExpireMessages(%v, %d) is %v, not %v", q, now, got, want)
	}
}

func expectCount(t *testing.T, q impl.TransmitQueue, category int, want int) {
	t.Helper()
	if got := impl.CountCategory(q, category); got != want {
		t.Errorf("CountCategory(%v, %d) is %d, not %d", q, category, got, want)
	}
}

func expectEqualQueues(t *testing.T, a impl.TransmitQueue, b impl.TransmitQueue, want bool) {
	t.Helper()
	if impl.EqualQueues(a, b) != want || impl.EqualQueues(b, a) != want {
		t.Errorf("EqualQueues(%v, %v) is not %v in both orders", a, b, want)
	}
}

func TestConstantsOfQueues(t *testing.T) {
	if impl.MaxQueue != 12 || impl.MaxBody != 100 || impl.MaxStations != 16 || impl.Group != 63 || impl.MaxValue != mostUntil {
		t.Error(impl.MaxQueue, impl.MaxBody, impl.MaxStations, impl.Group, impl.MaxValue)
	}
	if impl.Background != 0 || impl.BestEffort != 1 || impl.Video != 2 || impl.Voice != 3 {
		t.Error(impl.Background, impl.BestEffort, impl.Video, impl.Voice)
	}
}

func TestIsValidMessage(t *testing.T) {
	expectValidMessage(t, impl.Message{}, true)
	for _, c := range []struct {
		to, category, deadline, bytes int
		want                          bool
	}{
		{5, 1, 17, 3, true}, {0, 0, 0, 0, true}, {15, 3, mostUntil, 100, true}, {63, 2, 1, 1, true},
		{-1, 1, 17, 3, false}, {0, 1, 17, 3, true}, {15, 1, 17, 3, true}, {16, 1, 17, 3, false}, {62, 1, 17, 3, false}, {63, 1, 17, 3, true}, {64, 1, 17, 3, false}, {math.MinInt, 1, 17, 3, false}, {math.MaxInt, 1, 17, 3, false},
		{5, -1, 17, 3, false}, {5, 0, 17, 3, true}, {5, 2, 17, 3, true}, {5, 3, 17, 3, true}, {5, 4, 17, 3, false}, {5, math.MinInt, 17, 3, false}, {5, math.MaxInt, 17, 3, false},
		{5, 1, -1, 3, false}, {5, 1, 0, 3, true}, {5, 1, mostUntil, 3, true}, {5, 1, mostUntil + 1, 3, false}, {5, 1, math.MinInt, 3, false}, {5, 1, math.MaxInt, 3, false},
		{5, 1, 17, 0, true}, {5, 1, 17, 99, true}, {5, 1, 17, 100, true}, {5, 1, 17, 101, false}, {63, 1, 17, 100, true}, {63, 1, 17, 101, false},
	} {
		expectValidMessage(t, impl.Message{To: c.to, Category: c.category, Deadline: c.deadline, Body: make([]byte, c.bytes)}, c.want)
	}
	expectValidMessage(t, impl.Message{To: 5, Category: 1, Deadline: 17, Body: nil}, true)
	expectValidMessage(t, impl.Message{To: 5, Category: 1, Deadline: 17, Body: []byte{}}, true)
	// The capacity of a body does not count.
	expectValidMessage(t, impl.Message{To: 5, Category: 1, Deadline: 17, Body: make([]byte, 100, 200)}, true)
}

func TestIsValidMessageOfAllFields(t *testing.T) {
	for i, to := range slices.Concat(destinations, notDestinations) {
		for j, category := range slices.Concat(upTo(4), notCategories) {
			for k, deadline := range slices.Concat(goodEnds, notEnds) {
				for _, bytes := range []int{0, 1, 99, 100, 101, 102, 256} {
					want := i < 17 && j < 4 && k < len(goodEnds) && bytes <= 100
					expectValidMessage(t, impl.Message{To: to, Category: category, Deadline: deadline, Body: make([]byte, bytes)}, want)
				}
			}
		}
	}
}

func TestIsValidQueueOfCounts(t *testing.T) {
	expectValidQueue(t, impl.TransmitQueue{}, true)
	expectValidQueue(t, impl.TransmitQueue{Messages: []impl.Message{}}, true)
	for _, count := range []int{0, 1, 2, 6, 11, 12, 13, 14, 24, 25, 256, 257} {
		for category := range 4 {
			expectValidQueue(t, queueOf(0, slices.Repeat([]int{category}, count)...), count <= 12)
		}
		expectValidQueue(t, impl.TransmitQueue{Messages: make([]impl.Message, count)}, count <= 12)
		// The capacity does not count.
		expectValidQueue(t, impl.TransmitQueue{Messages: make([]impl.Message, count, count+20)}, count <= 12)
	}
}

func TestIsValidQueueOfDropped(t *testing.T) {
	for _, count := range []int{0, 1, 5, 12} {
		for _, dropped := range goodDropped {
			expectValidQueue(t, queueOf(dropped, make([]int, count)...), true)
		}
		for _, dropped := range notDropped {
			expectValidQueue(t, queueOf(dropped, make([]int, count)...), false)
		}
	}
}

func TestIsValidQueueOfMessages(t *testing.T) {
	for _, q := range validQueues() {
		expectValidQueue(t, q, true)
	}
	for _, q := range slices.Concat(spoiltQueues(), farQueues()) {
		expectValidQueue(t, q, false)
	}
	for _, count := range []int{1, 2, 7, 12} {
		for place := range count {
			q := queueOf(0, slices.Repeat([]int{1}, count)...)
			for _, m := range spoiltMessages(q.Messages[place]) {
				q.Messages[place] = m
				expectValidQueue(t, q, false)
			}
			q.Messages[place] = numberedMessage(50, 3)
			expectValidQueue(t, q, true)
		}
	}
}

// In a queue that is not full, the message is the last one and nothing is dropped.
func TestEnqueueMessageWithRoom(t *testing.T) {
	for count := range 12 {
		for least := range 4 {
			for category := range 4 {
				for _, dropped := range goodDropped {
					q, m := queueOf(dropped, slices.Repeat([]int{least}, count)...), numberedMessage(40, category)
					expectEnqueued(t, q, m, impl.TransmitQueue{Messages: append(slices.Clone(q.Messages), m), Dropped: dropped})
				}
			}
		}
	}
	for _, m := range []impl.Message{{}, {To: 63, Category: 3, Deadline: mostUntil, Body: allBytes()[156:]}, {To: 15, Body: []byte{}}, {Body: []byte{0}}} {
		expectEnqueued(t, impl.TransmitQueue{}, m, impl.TransmitQueue{Messages: []impl.Message{m}})
		expectEnqueued(t, impl.TransmitQueue{Messages: []impl.Message{}, Dropped: 3}, m, impl.TransmitQueue{Messages: []impl.Message{m}, Dropped: 3})
	}
}

// Fixed values: the message at the index drop of the queue's messages and m is missing; 12 is the index of m.
func TestEnqueueMessageIntoFullQueue(t *testing.T) {
	for _, c := range []struct {
		categories     []int
		category, drop int
	}{
		// The least category stands once.
		{[]int{0, 3, 3, 3, 3, 3, 3, 3, 3, 3, 3, 3}, 3, 0}, {[]int{3, 3, 3, 3, 3, 0, 3, 3, 3, 3, 3, 3}, 3, 5}, {[]int{3, 3, 3, 3, 3, 3, 3, 3, 3, 3, 3, 0}, 3, 11},
		{[]int{0, 3, 3, 3, 3, 3, 3, 3, 3, 3, 3, 3}, 1, 0}, {[]int{3, 3, 3, 3, 3, 0, 3, 3, 3, 3, 3, 3}, 1, 5}, {[]int{3, 3, 3, 3, 3, 3, 3, 3, 3, 3, 3, 0}, 1, 11},
		{[]int{1, 2, 2, 2, 3, 2, 2, 2, 2, 3, 2, 2}, 2, 0}, {[]int{2, 2, 2, 2, 3, 2, 1, 2, 2, 3, 2, 2}, 3, 6}, {[]int{3, 3, 3, 2, 2, 2, 3, 2, 3, 2, 2, 1}, 2, 11},
		// It stands several times.
		{[]int{0, 0, 3, 3, 3, 3, 3, 3, 3, 3, 3, 3}, 3, 1}, {[]int{0, 3, 3, 3, 3, 0, 3, 3, 3, 3, 3, 3}, 2, 5}, {[]int{0, 3, 3, 3, 3, 3, 3, 3, 3, 3, 3, 0}, 1, 11}, {[]int{0, 1, 0, 1, 0, 1, 0, 1, 0, 1, 0, 1}, 1, 10},
		{[]int{1, 1, 1, 1, 1, 1, 1, 1, 1, 1, 1, 1}, 2, 11}, {[]int{2, 2, 2, 2, 2, 2, 2, 2, 2, 2, 2, 3}, 3, 10}, {[]int{3, 2, 1, 3, 2, 1, 3, 2, 1, 3, 2, 2}, 2, 8}, {[]int{1, 2, 3, 1, 2, 3, 2, 2, 2, 2, 2, 2}, 2, 3},
		// The message is the least urgent one, or the last of these.
		{[]int{3, 3, 3, 3, 3, 3, 3, 3, 3, 3, 3, 3}, 0, 12}, {[]int{3, 3, 3, 3, 3, 3, 3, 3, 3, 3, 3, 3}, 2, 12}, {[]int{1, 2, 3, 1, 2, 3, 1, 2, 3, 1, 2, 3}, 0, 12}, {[]int{2, 2, 2, 2, 2, 2, 2, 2, 2, 2, 2, 2}, 1, 12},
		{[]int{0, 0, 0, 0, 0, 0, 0, 0, 0, 0, 0, 0}, 0, 12}, {[]int{1, 1, 1, 1, 1, 1, 1, 1, 1, 1, 1, 1}, 1, 12}, {[]int{2, 2, 2, 2, 2, 2, 2, 2, 2, 2, 2, 2}, 2, 12}, {[]int{3, 3, 3, 3, 3, 3, 3, 3, 3, 3, 3, 3}, 3, 12},
		{[]int{0, 3, 3, 3, 3, 3, 3, 3, 3, 3, 3, 3}, 0, 12}, {[]int{3, 3, 3, 3, 3, 3, 1, 3, 3, 3, 3, 3}, 1, 12}, {[]int{3, 3, 3, 3, 3, 3, 3, 3, 3, 3, 3, 2}, 2, 12}, {[]int{0, 1, 2, 3, 0, 1, 2, 3, 0, 1, 2, 3}, 0, 12},
		{[]int{0, 1, 2, 3, 0, 1, 2, 3, 0, 1, 2, 3}, 1, 8}, {[]int{0, 1, 2, 3, 0, 1, 2, 3, 0, 1, 2, 3}, 2, 8}, {[]int{0, 1, 2, 3, 0, 1, 2, 3, 0, 1, 2, 3}, 3, 8},
	} {
		q, m := queueOf(4, c.categories...), numberedMessage(40, c.category)
		all := append(slices.Clone(q.Messages), m)
		want := impl.TransmitQueue{Messages: without(all, c.drop), Dropped: 5}
		if len(want.Messages) != 12 {
			t.Fatalf("%v has %d messages", want, len(want.Messages))
		}
		expectEnqueued(t, q, m, want)
		if c.drop == 12 {
			expectEnqueued(t, q, m, impl.TransmitQueue{Messages: q.Messages, Dropped: 5})
		}
	}
}

// The document's example.
func TestEnqueueMessageDropsBackground(t *testing.T) {
	for place := range 12 {
		categories := slices.Repeat([]int{impl.Voice, impl.Video, impl.BestEffort}, 4)
		categories[place] = impl.Background
		q, m := queueOf(0, categories...), numberedMessage(40, impl.Voice)
		expectEnqueued(t, q, m, impl.TransmitQueue{Messages: append(without(q.Messages, place), m), Dropped: 1})
	}
}

// Neither the address, nor the deadline, nor the body decides which message is dropped.
func TestEnqueueMessageLooksAtCategoriesOnly(t *testing.T) {
	for place := range 12 {
		q := queueOf(0, slices.Repeat([]int{2}, 12)...)
		for i := range q.Messages {
			q.Messages[i].To, q.Messages[i].Deadline, q.Messages[i].Body = 1, 0, nil
		}
		q.Messages[place] = impl.Message{To: 63, Category: 1, Deadline: mostUntil, Body: allBytes()[:100]}
		m := impl.Message{To: 0, Category: 2, Deadline: 0}
		expectEnqueued(t, q, m, impl.TransmitQueue{Messages: append(without(q.Messages, place), m), Dropped: 1})
		m = impl.Message{To: 63, Category: 0, Deadline: mostUntil, Body: allBytes()[:100]}
		expectEnqueued(t, q, m, impl.TransmitQueue{Messages: q.Messages, Dropped: 1})
	}
}

func TestEnqueueMessageOfPatternsAgainstReference(t *testing.T) {
	fullPatterns(func(categories []int) {
		q := queueOf(7, categories...)
		for category := range 4 {
			m := numberedMessage(40, category)
			expectEnqueued(t, q, m, enqueuedReference(q, m))
		}
	})
}

func TestEnqueueMessageAgainstReference(t *testing.T) {
	random := rand.New(rand.NewPCG(17, 1))
	for range 20000 {
		q := queueOf(random.IntN(9), randomCategories(random, 9+random.IntN(5))...)
		m := numberedMessage(random.IntN(100), random.IntN(4))
		expectEnqueued(t, q, m, enqueuedReference(q, m))
	}
	for _, q := range allQueues() {
		for category := range 4 {
			m := numberedMessage(40, category)
			expectEnqueued(t, q, m, enqueuedReference(q, m))
		}
	}
}

// Equal messages are dropped one by one, too.
func TestEnqueueMessageOfEqualMessages(t *testing.T) {
	m := impl.Message{To: 3, Category: 1, Deadline: 9, Body: []byte("same")}
	q := impl.TransmitQueue{Messages: slices.Repeat([]impl.Message{m}, 12)}
	expectEnqueued(t, q, m, impl.TransmitQueue{Messages: q.Messages, Dropped: 1})
	urgent := m
	urgent.Category = 2
	expectEnqueued(t, q, urgent, impl.TransmitQueue{Messages: append(slices.Clone(q.Messages[:11]), urgent), Dropped: 1})
}

func TestEnqueueMessageOfDropped(t *testing.T) {
	for _, c := range [][2]int{{0, 1}, {1, 2}, {12, 13}, {mostUntil, mostUntil + 1}, {math.MaxInt - 1, math.MaxInt}, {math.MaxInt, math.MinInt}} {
		q := queueOf(c[0], slices.Repeat([]int{1}, 12)...)
		less, same, more := numberedMessage(40, 0), numberedMessage(40, 1), numberedMessage(40, 2)
		expectEnqueued(t, q, less, impl.TransmitQueue{Messages: q.Messages, Dropped: c[1]})
		expectEnqueued(t, q, same, impl.TransmitQueue{Messages: q.Messages, Dropped: c[1]})
		expectEnqueued(t, q, more, impl.TransmitQueue{Messages: append(slices.Clone(q.Messages[:11]), more), Dropped: c[1]})
		room := queueOf(c[0], slices.Repeat([]int{1}, 11)...)
		expectEnqueued(t, room, less, impl.TransmitQueue{Messages: append(slices.Clone(room.Messages), less), Dropped: c[0]})
	}
	// After the wraparound the queue is invalid.
	wrapped := impl.EnqueueMessage(queueOf(math.MaxInt, make([]int, 12)...), numberedMessage(40, 3))
	expectEnqueued(t, wrapped, numberedMessage(41, 3), wrapped)
}

func TestEnqueueMessageIntoInvalidQueue(t *testing.T) {
	for _, q := range slices.Concat(spoiltQueues(), farQueues()) {
		for category := range 4 {
			expectEnqueued(t, q, numberedMessage(40, category), q)
		}
		expectEnqueued(t, q, impl.Message{Category: 4}, q)
	}
}

func TestEnqueueMessageOfInvalidMessages(t *testing.T) {
	for category := range 4 {
		for _, m := range spoiltMessages(numberedMessage(40, category)) {
			for _, count := range []int{0, 1, 6, 11, 12} {
				for least := range 4 {
					q := queueOf(6, slices.Repeat([]int{least}, count)...)
					expectEnqueued(t, q, m, q)
				}
			}
		}
	}
}

func TestNextMessage(t *testing.T) {
	for _, c := range []struct {
		categories []int
		want       int
	}{
		{nil, -1}, {[]int{}, -1}, {[]int{0}, 0}, {[]int{1}, 0}, {[]int{2}, 0}, {[]int{3}, 0},
		{[]int{0, 0}, 0}, {[]int{0, 1}, 1}, {[]int{1, 0}, 0}, {[]int{3, 3}, 0}, {[]int{2, 3}, 1}, {[]int{3, 2}, 0},
		{[]int{3, 1, 2}, 0}, {[]int{1, 3, 2}, 1}, {[]int{1, 2, 3}, 2}, {[]int{3, 3, 1}, 0}, {[]int{1, 3, 3}, 1}, {[]int{3, 1, 3}, 0}, {[]int{0, 2, 1, 2, 0, 2}, 1},
		{[]int{0, 0, 0, 0, 0, 0, 0, 0, 0, 0, 0, 0}, 0}, {[]int{3, 3, 3, 3, 3, 3, 3, 3, 3, 3, 3, 3}, 0}, {[]int{2, 2, 2, 2, 2, 3, 2, 2, 2, 2, 2, 2}, 5}, {[]int{0, 0, 0, 0, 0, 0, 0, 0, 0, 0, 0, 1}, 11}, {[]int{0, 0, 0, 0, 0, 0, 0, 0, 0, 0, 1, 1}, 10},
		// In invalid queues, other numbers are in the order of urgency, too.
		{[]int{0, 0, 0, 0, 0, 0, 0, 0, 0, 0, 0, 0, 1}, 12}, {[]int{3, 0, 0, 0, 0, 0, 0, 0, 0, 0, 0, 0, 0, 3}, 0}, {[]int{3, 4}, 1}, {[]int{4, 3}, 0}, {[]int{4, 4, 9, 9, 4}, 2},
		{[]int{-1}, 0}, {[]int{-1, -2}, 0}, {[]int{-2, -1}, 1}, {[]int{-2, -1, -1}, 1}, {[]int{-1, 0}, 1}, {[]int{-9, -5, -7}, 1},
		{[]int{math.MinInt}, 0}, {[]int{math.MinInt, math.MinInt}, 0}, {[]int{math.MinInt, math.MinInt + 1}, 1}, {[]int{math.MinInt, math.MaxInt}, 1}, {[]int{math.MaxInt, math.MinInt}, 0},
		{[]int{-1, math.MinInt}, 0}, {[]int{1, math.MinInt}, 0}, {[]int{math.MinInt, 1}, 1},
		{[]int{math.MaxInt - 1, math.MaxInt, math.MaxInt}, 1}, {[]int{-2, math.MaxInt}, 1}, {[]int{math.MaxInt, -2}, 0}, {farCategories, 14},
	} {
		for _, dropped := range []int{0, 5, -1, math.MinInt, math.MaxInt} {
			expectNextMessage(t, queueOf(dropped, c.categories...), c.want)
		}
	}
	expectNextMessage(t, impl.TransmitQueue{}, -1)
	expectNextMessage(t, impl.TransmitQueue{Messages: []impl.Message{}, Dropped: 4}, -1)
}

// Neither the address, nor the deadline, nor the body decides which message is taken, valid or not.
func TestNextMessageLooksAtCategoriesOnly(t *testing.T) {
	for place := range 5 {
		q := queueOf(0, 1, 1, 1, 1, 1)
		q.Messages[place] = impl.Message{To: 0, Category: 2, Deadline: mostUntil}
		expectNextMessage(t, q, place)
		for _, m := range spoiltMessages(numberedMessage(40, 2)) {
			q.Messages[place] = m
			if m.Category == 2 {
				expectNextMessage(t, q, place)
			}
		}
		for _, m := range spoiltMessages(numberedMessage(40, 1)) {
			q.Messages[place] = m
			if m.Category == 1 {
				expectNextMessage(t, q, 0)
			}
		}
	}
}

func TestNextMessageAgainstReference(t *testing.T) {
	fullPatterns(func(categories []int) {
		q := queueOf(0, categories...)
		expectNextMessage(t, q, nextMessageReference(q))
	})
	for _, categories := range slices.Concat(shortLists(upTo(4), 5), shortLists([]int{math.MinInt, -1, 0, 3, math.MaxInt}, 5)) {
		q := queueOf(0, categories...)
		expectNextMessage(t, q, nextMessageReference(q))
	}
	for _, q := range allQueues() {
		expectNextMessage(t, q, nextMessageReference(q))
	}
}

func TestTakeMessage(t *testing.T) {
	q := queueOf(9, 1, 3, 0, 3, 2)
	for index, rest := range [][]int{{1, 2, 3, 4}, {0, 2, 3, 4}, {0, 1, 3, 4}, {0, 1, 2, 4}, {0, 1, 2, 3}} {
		expectTaken(t, q, index, impl.TransmitQueue{Messages: picked(q.Messages, rest...), Dropped: 9}, q.Messages[index], true)
	}
	for _, index := range []int{-1, 5, -5, 6, 1 << 32, 1<<32 + 1, -1<<32 + 2, math.MinInt, math.MinInt + 2, math.MaxInt - 1, math.MaxInt} {
		expectTaken(t, q, index, q, impl.Message{}, false)
	}
	one := queueOf(2, 3)
	expectTaken(t, one, 0, impl.TransmitQueue{Dropped: 2}, one.Messages[0], true)
	for _, index := range []int{-1, 0, 1, math.MinInt, math.MaxInt} {
		expectTaken(t, impl.TransmitQueue{}, index, impl.TransmitQueue{}, impl.Message{}, false)
		expectTaken(t, impl.TransmitQueue{Messages: []impl.Message{}, Dropped: 7}, index, impl.TransmitQueue{Dropped: 7}, impl.Message{}, false)
		if index != 0 {
			expectTaken(t, one, index, one, impl.Message{}, false)
		}
	}
}

func TestTakeMessageAgainstReference(t *testing.T) {
	for _, q := range allQueues() {
		count := len(q.Messages)
		for _, index := range []int{0, 1, count / 2, count - 2, count - 1, count, count + 1, -1, -2, -count, 11, 12, 13, math.MinInt, math.MaxInt} {
			left, m, ok := takenReference(q, index)
			expectTaken(t, q, index, left, m, ok)
		}
	}
}

// takeAll takes the messages one after the other until there is none.
func takeAll(t *testing.T, q impl.TransmitQueue) []impl.Message {
	t.Helper()
	list := []impl.Message{}
	for range len(q.Messages) {
		left, m, ok := impl.TakeMessage(q, impl.NextMessage(q))
		if !ok || left.Dropped != q.Dropped {
			t.Fatalf("TakeMessage of NextMessage of %v is %v, %v, %v", q, left, m, ok)
		}
		list = append(list, m)
		q = left
	}
	expectNextMessage(t, q, -1)
	expectTaken(t, q, impl.NextMessage(q), q, impl.Message{}, false)
	return list
}

// Promise 17: the messages are taken by their category, and by their arrival if their categories are equal.
func TestUrgentMessagesAreTakenFirst(t *testing.T) {
	q := queueOf(0, 1, 3, 0, 2, 3, 1, 0, 2)
	if got, want := takeAll(t, q), picked(q.Messages, 1, 4, 3, 7, 0, 5, 2, 6); !slices.EqualFunc(got, want, sameMessage) {
		t.Errorf("the messages of %v are taken in the order %v, not %v", q, got, want)
	}
	for _, q := range slices.Concat(validQueues(), farQueues()) {
		if got, want := takeAll(t, q), picked(q.Messages, byUrgency(q.Messages)...); !slices.EqualFunc(got, want, sameMessage) {
			t.Errorf("the messages of %v are taken in the order %v, not %v", q, got, want)
		}
	}
	random := rand.New(rand.NewPCG(17, 2))
	for range 2000 {
		q := queueOf(0, randomCategories(random, random.IntN(13))...)
		got := takeAll(t, q)
		for i := 1; i < len(got); i++ {
			earlier, later := got[i-1], got[i]
			if earlier.Category < later.Category || earlier.Category == later.Category && earlier.Deadline > later.Deadline {
				t.Fatalf("of %v, %v is taken before %v", q, earlier, later)
			}
		}
	}
}

// lost are the messages of all that are not in the queue; the deadlines tell them apart.
func lost(all []impl.Message, q impl.TransmitQueue) []impl.Message {
	return slices.DeleteFunc(slices.Clone(all), func(m impl.Message) bool {
		return slices.ContainsFunc(q.Messages, func(kept impl.Message) bool { return sameMessage(m, kept) })
	})
}

// Promise 17: of more messages than the queue holds, the one that is dropped is never more urgent than one that is kept, nor earlier than one that is as urgent.
func TestOnlyLeastUrgentAreDropped(t *testing.T) {
	random := rand.New(rand.NewPCG(17, 3))
	for range 300 {
		q, dropped := impl.TransmitQueue{}, 0
		for number := range 60 {
			m := numberedMessage(number, random.IntN(4))
			all := append(slices.Clone(q.Messages), m)
			q = impl.EnqueueMessage(q, m)
			gone := lost(all, q)
			if len(all) == 13 {
				dropped++
			}
			if len(gone) != len(all)/13 || len(q.Messages) != min(len(all), 12) || q.Dropped != dropped || !impl.IsValidQueue(q) {
				t.Fatalf("with %v the queue became %v, without %v", m, q, gone)
			}
			for _, g := range gone {
				for _, kept := range q.Messages {
					if kept.Category < g.Category || kept.Category == g.Category && kept.Deadline > g.Deadline {
						t.Fatalf("%v was dropped rather than %v", g, kept)
					}
				}
			}
			if random.IntN(8) == 0 {
				q, _, _ = impl.TakeMessage(q, impl.NextMessage(q))
			}
		}
	}
}

// Promise 17 for a queue that nothing is taken from: the twelve that would have been taken first are left.
func TestMostUrgentAreKept(t *testing.T) {
	random := rand.New(rand.NewPCG(17, 4))
	for range 500 {
		all := queueOf(0, randomCategories(random, random.IntN(40))...)
		q := impl.TransmitQueue{}
		for _, m := range all.Messages {
			q = impl.EnqueueMessage(q, m)
		}
		kept := byUrgency(all.Messages)[:min(12, len(all.Messages))]
		if got := takeAll(t, q); !slices.EqualFunc(got, picked(all.Messages, kept...), sameMessage) || q.Dropped != len(all.Messages)-len(kept) {
			t.Fatalf("of %v the queue keeps %v", all, q)
		}
		slices.Sort(kept)
		if !slices.EqualFunc(q.Messages, picked(all.Messages, kept...), sameMessage) {
			t.Fatalf("%v is not in the order of the arrival of %v", q, all)
		}
	}
}

// A course of all functions agrees with the references.
func TestCourseOfQueues(t *testing.T) {
	random := rand.New(rand.NewPCG(17, 5))
	for range 200 {
		q, now := impl.TransmitQueue{}, 0
		for number := range 100 {
			before := q
			switch random.IntN(6) {
			case 0:
				index := random.IntN(14) - 1
				left, m, ok := takenReference(q, index)
				expectTaken(t, q, index, left, m, ok)
				q, _, _ = impl.TakeMessage(q, index)
			case 1:
				expectExpired(t, q, now, expiredReference(q, now))
				q = impl.ExpireMessages(q, now)
			default:
				m := numberedMessage(number, random.IntN(4))
				m.Deadline = now + random.IntN(60)
				expectEnqueued(t, q, m, enqueuedReference(q, m))
				q = impl.EnqueueMessage(q, m)
			}
			expectNextMessage(t, q, nextMessageReference(q))
			if !impl.IsValidQueue(q) || q.Dropped < before.Dropped || t.Failed() {
				t.Fatalf("%v became %v in slot %d", before, q, now)
			}
			now += random.IntN(4)
		}
	}
}

// Fixed values: the messages at the indices left are those that are not discarded.
func TestExpireMessages(t *testing.T) {
	for _, c := range []struct {
		deadlines []int
		now       int
		left      []int
	}{
		{[]int{5}, 4, []int{0}}, {[]int{5}, 5, []int{0}}, {[]int{5}, 6, nil}, {[]int{0}, -1, []int{0}}, {[]int{0}, 0, []int{0}}, {[]int{0}, 1, nil},
		{[]int{5, 4, 5, 6, 3}, 3, []int{0, 1, 2, 3, 4}}, {[]int{5, 4, 5, 6, 3}, 4, []int{0, 1, 2, 3}}, {[]int{5, 4, 5, 6, 3}, 5, []int{0, 2, 3}}, {[]int{5, 4, 5, 6, 3}, 6, []int{3}}, {[]int{5, 4, 5, 6, 3}, 7, nil},
		{[]int{1, 2, 3, 4, 5, 6, 7, 8, 9, 10, 11, 12}, 7, []int{6, 7, 8, 9, 10, 11}}, {[]int{12, 11, 10, 9, 8, 7, 6, 5, 4, 3, 2, 1}, 7, []int{0, 1, 2, 3, 4, 5}}, {[]int{1, 1, 1, 1, 1, 1, 1, 1, 1, 1, 1, 1}, 2, nil},
		{[]int{mostUntil, mostUntil - 1, 0}, mostUntil - 1, []int{0, 1}}, {[]int{mostUntil, mostUntil - 1, 0}, mostUntil, []int{0}}, {[]int{mostUntil, mostUntil - 1, 0}, mostUntil + 1, nil},
		{[]int{7, 0, mostUntil}, math.MinInt, []int{0, 1, 2}}, {[]int{7, 0, mostUntil}, -1, []int{0, 1, 2}}, {[]int{7, 0, mostUntil}, math.MaxInt, nil},
		// The deadlines of invalid messages are compared as they are.
		{[]int{math.MinInt}, math.MinInt, []int{0}}, {[]int{math.MinInt}, math.MinInt + 1, nil}, {[]int{math.MinInt}, 0, nil}, {[]int{math.MinInt}, 1, nil}, {[]int{math.MinInt}, math.MaxInt, nil},
		{[]int{math.MaxInt}, math.MaxInt, []int{0}}, {[]int{math.MaxInt - 1}, math.MaxInt, nil}, {[]int{math.MaxInt}, -1, []int{0}}, {[]int{math.MaxInt}, -2, []int{0}}, {[]int{math.MaxInt}, math.MinInt, []int{0}},
		{[]int{-1, -2, -3}, -2, []int{0, 1}}, {[]int{-1, 0}, 0, []int{1}}, {[]int{math.MaxInt, math.MinInt, -5, 5}, 0, []int{0, 3}}, {[]int{math.MinInt + 1, math.MinInt, math.MinInt + 2}, math.MinInt + 1, []int{0, 2}},
		{nil, 0, nil}, {nil, math.MinInt, nil}, {nil, math.MaxInt, nil},
	} {
		gone := len(c.deadlines) - len(c.left)
		for _, dropped := range slices.Concat(goodDropped, notDropped) {
			q := queueUntil(dropped, c.deadlines...)
			expectExpired(t, q, c.now, impl.TransmitQueue{Messages: picked(q.Messages, c.left...), Dropped: dropped + gone})
		}
	}
}

func TestExpireMessagesOfDropped(t *testing.T) {
	for _, c := range []struct{ dropped, now, want int }{
		{0, 1, 0}, {0, 2, 1}, {0, 3, 2}, {0, 4, 3}, {8, 4, 11}, {mostUntil, 4, mostUntil + 3},
		{math.MaxInt - 3, 4, math.MaxInt}, {math.MaxInt - 2, 4, math.MinInt}, {math.MaxInt - 1, 4, math.MinInt + 1}, {math.MaxInt, 4, math.MinInt + 2}, {math.MaxInt, 2, math.MinInt}, {math.MaxInt, 1, math.MaxInt},
		{-1, 4, 2}, {-3, 4, 0}, {-9, 2, -8}, {math.MinInt, 4, math.MinInt + 3}, {math.MinInt, 1, math.MinInt},
	} {
		q := queueUntil(c.dropped, 1, 2, 3)
		expectExpired(t, q, c.now, impl.TransmitQueue{Messages: q.Messages[c.now-1:], Dropped: c.want})
	}
}

// Neither the address, nor the category, nor the body decides which message is discarded.
func TestExpireMessagesLooksAtDeadlinesOnly(t *testing.T) {
	for _, q := range allQueues() {
		for i := range q.Messages {
			q.Messages[i].Deadline = 17
		}
		expectExpired(t, q, 17, q)
		expectExpired(t, q, 18, impl.TransmitQueue{Dropped: q.Dropped + len(q.Messages)})
	}
}

func TestExpireMessagesAgainstReference(t *testing.T) {
	for _, q := range allQueues() {
		for _, now := range []int{0, 1, -1, 17, 18, 999, 1000, 1001, 1006, 1011, 1012, 1024, mostUntil, mostUntil + 1, math.MinInt, math.MinInt + 1, math.MaxInt - 1, math.MaxInt} {
			expectExpired(t, q, now, expiredReference(q, now))
		}
	}
}

func TestCountCategory(t *testing.T) {
	q := queueOf(5, 1, 3, 0, 3, 1, 3)
	for category, want := range []int{1, 2, 0, 3} {
		expectCount(t, q, category, want)
		expectCount(t, impl.TransmitQueue{}, category, 0)
		expectCount(t, queueOf(0, slices.Repeat([]int{category}, 12)...), category, 12)
		expectCount(t, queueOf(0, slices.Repeat([]int{category}, 12)...), 3-category, 0)
	}
	for _, category := range notCategories {
		expectCount(t, q, category, 0)
		expectCount(t, impl.TransmitQueue{}, category, 0)
		expectCount(t, queueOf(0, category), category, 1)
		expectCount(t, queueOf(-1, 0, category, 3, category, 1, 2), category, 2)
		expectCount(t, queueOf(-1, slices.Repeat([]int{category}, 70)...), category, 70)
	}
}

func TestCountCategoryAgainstReference(t *testing.T) {
	for _, q := range allQueues() {
		counts, sum := map[int]int{}, 0
		for _, m := range q.Messages {
			counts[m.Category]++
		}
		for _, category := range slices.Concat(farCategories, notCategories[:10]) {
			expectCount(t, q, category, counts[category])
		}
		for category := range counts {
			sum += impl.CountCategory(q, category)
		}
		if sum != len(q.Messages) {
			t.Errorf("%v has %d messages of its categories", q, sum)
		}
	}
}

// cloned returns a queue that shares no memory with q.
func cloned(q impl.TransmitQueue) impl.TransmitQueue {
	q.Messages = slices.Clone(q.Messages)
	for i := range q.Messages {
		q.Messages[i].Body = slices.Clone(q.Messages[i].Body)
	}
	return q
}

func TestEqualQueuesOfFields(t *testing.T) {
	for _, count := range []int{1, 3, 12, 20} {
		q := queueOf(5, randomCategories(rand.New(rand.NewPCG(17, 6)), count)...)
		expectEqualQueues(t, q, q, true)
		expectEqualQueues(t, q, cloned(q), true)
		for place := range count {
			for i, change := range []func(*impl.Message){
				func(m *impl.Message) { m.To++ }, func(m *impl.Message) { m.To += 1 << 32 }, func(m *impl.Message) { m.Category++ }, func(m *impl.Message) { m.Category -= 1 << 32 },
				func(m *impl.Message) { m.Deadline++ }, func(m *impl.Message) { m.Deadline = math.MinInt }, func(m *impl.Message) { m.Deadline += 1 << 32 },
				func(m *impl.Message) { m.Body = nil }, func(m *impl.Message) { m.Body = append(m.Body, 0) }, func(m *impl.Message) { m.Body = append([]byte{0}, m.Body...) },
				func(m *impl.Message) { m.Body[0]++ }, func(m *impl.Message) { m.Body[len(m.Body)-1] += 128 }, func(m *impl.Message) { m.Body = m.Body[:len(m.Body)-1] },
				func(m *impl.Message) { m.To, m.Deadline = m.Deadline, m.To }, func(m *impl.Message) { m.Category, m.Deadline = m.Deadline, m.Category },
			} {
				changed := cloned(q)
				change(&changed.Messages[place])
				if sameQueue(q, changed) {
					t.Fatalf("change %d changes nothing in %v", i, q)
				}
				expectEqualQueues(t, q, changed, false)
			}
		}
	}
}

func TestEqualQueuesOfNumbersAndOrder(t *testing.T) {
	q := queueOf(5, 1, 1, 2)
	for _, indices := range [][]int{{}, {0}, {1}, {2}, {0, 1}, {1, 2}, {0, 2}, {1, 0, 2}, {0, 2, 1}, {2, 1, 0}, {1, 2, 0}, {0, 1, 1}, {0, 0, 2}, {0, 1, 2, 2}, {0, 0, 1, 2}, {0, 1, 2, 0, 1, 2}} {
		expectEqualQueues(t, q, impl.TransmitQueue{Messages: picked(q.Messages, indices...), Dropped: 5}, false)
	}
	for _, dropped := range []int{4, 6, 0, -5, 5 + 1<<32, math.MinInt, math.MinInt + 5, math.MaxInt} {
		expectEqualQueues(t, q, impl.TransmitQueue{Messages: q.Messages, Dropped: dropped}, false)
		expectEqualQueues(t, queueOf(dropped), queueOf(5), false)
		expectEqualQueues(t, queueOf(dropped), queueOf(dropped), true)
	}
	expectEqualQueues(t, impl.TransmitQueue{}, impl.TransmitQueue{Messages: []impl.Message{{}}}, false)
	expectEqualQueues(t, impl.TransmitQueue{Messages: []impl.Message{{}}}, impl.TransmitQueue{Messages: []impl.Message{{}, {}}}, false)
	// A nil slice equals an empty one.
	expectEqualQueues(t, impl.TransmitQueue{}, impl.TransmitQueue{Messages: []impl.Message{}}, true)
	expectEqualQueues(t, impl.TransmitQueue{Messages: []impl.Message{{}}}, impl.TransmitQueue{Messages: []impl.Message{{Body: []byte{}}}}, true)
	expectEqualQueues(t, impl.TransmitQueue{Messages: []impl.Message{{Body: nil}, {To: 1}}}, impl.TransmitQueue{Messages: []impl.Message{{Body: make([]byte, 0, 9)}, {To: 1}}}, true)
	// Bytes are not moved from one body to another.
	expectEqualQueues(t, impl.TransmitQueue{Messages: []impl.Message{{Body: []byte("ab")}, {Body: []byte("c")}}}, impl.TransmitQueue{Messages: []impl.Message{{Body: []byte("a")}, {Body: []byte("bc")}}}, false)
}

func TestEqualQueuesAgainstReference(t *testing.T) {
	list := slices.Concat(validQueues(), spoiltQueues()[:150], farQueues())
	for _, a := range list {
		for _, b := range list {
			expectEqualQueues(t, a, b, sameQueue(a, b))
		}
		expectEqualQueues(t, a, cloned(a), true)
	}
}

// A queue of many messages is not valid, but the functions take it.
func TestQueuesOfManyMessages(t *testing.T) {
	const count = 50000
	q := queueOf(-3, make([]int, count)...)
	q.Messages[count-2].Category, q.Messages[count-1].Category = 3, 3
	expectValidQueue(t, q, false)
	expectEnqueued(t, q, numberedMessage(0, 0), q)
	expectNextMessage(t, q, count-2)
	expectTaken(t, q, count-2, impl.TransmitQueue{Messages: without(q.Messages, count-2), Dropped: -3}, q.Messages[count-2], true)
	expectTaken(t, q, 0, impl.TransmitQueue{Messages: q.Messages[1:], Dropped: -3}, q.Messages[0], true)
	expectExpired(t, q, 1000+count/2, impl.TransmitQueue{Messages: q.Messages[count/2:], Dropped: count/2 - 3})
	expectCount(t, q, 0, count-2)
	expectEqualQueues(t, q, cloned(q), true)
}

// marks are messages that stand in spare capacity.
func marks() []impl.Message {
	return []impl.Message{{To: 7, Category: 3, Deadline: 70, Body: []byte("mark")}, {To: 8, Category: 0, Deadline: 0}, {To: 9, Category: 2, Deadline: 90, Body: []byte("k")}}
}

// guarded returns a copy of the queue whose slices have spare capacity behind them that holds marks.
func guarded(q impl.TransmitQueue) impl.TransmitQueue {
	whole := slices.Concat(q.Messages, marks())
	for i := range whole {
		whole[i].Body = withSpare(whole[i].Body...)
	}
	return impl.TransmitQueue{Messages: whole[:len(q.Messages)], Dropped: q.Dropped}
}

// checkGuarded reports whether the messages and all spare capacity are as guarded made them.
func checkGuarded(t *testing.T, name string, q impl.TransmitQueue, want impl.TransmitQueue) {
	t.Helper()
	whole := slices.Concat(want.Messages, marks())
	for i, m := range q.Messages[:len(whole)] {
		if !sameMessage(m, whole[i]) {
			t.Fatalf("%s changed message %d of its argument or of its spare capacity: %v", name, i, m)
		}
		checkSpare(t, name, m.Body, whole[i].Body...)
	}
}

// spoilQueue overwrites all the memory of a result.
func spoilQueue(q impl.TransmitQueue) {
	whole := q.Messages[:cap(q.Messages)]
	for i := range whole {
		spoil(append(whole[i].Body, 1))
		spoil(whole[i].Body)
		whole[i] = impl.Message{To: 99, Category: 99, Deadline: 99, Body: []byte{99}}
	}
}

// queueCall is a call that answers with a queue, and with a message or the zero Message.
type queueCall struct {
	name string
	call func(q impl.TransmitQueue) (impl.TransmitQueue, impl.Message)
}

func enqueueCall(m impl.Message) queueCall {
	return queueCall{"EnqueueMessage", func(q impl.TransmitQueue) (impl.TransmitQueue, impl.Message) {
		return impl.EnqueueMessage(q, m), impl.Message{}
	}}
}

// queueCalls are calls with and without an effect.
func queueCalls() []queueCall {
	take := func(choose func(q impl.TransmitQueue) int) queueCall {
		return queueCall{"TakeMessage", func(q impl.TransmitQueue) (impl.TransmitQueue, impl.Message) {
			left, m, _ := impl.TakeMessage(q, choose(q))
			return left, m
		}}
	}
	expire := func(now int) queueCall {
		return queueCall{"ExpireMessages", func(q impl.TransmitQueue) (impl.TransmitQueue, impl.Message) {
			return impl.ExpireMessages(q, now), impl.Message{}
		}}
	}
	return []queueCall{
		enqueueCall(numberedMessage(40, 0)), enqueueCall(numberedMessage(40, 1)), enqueueCall(numberedMessage(40, 3)), enqueueCall(numberedMessage(40, 4)), enqueueCall(impl.Message{To: 64}),
		take(impl.NextMessage), take(func(q impl.TransmitQueue) int { return 0 }), take(func(q impl.TransmitQueue) int { return len(q.Messages) / 2 }),
		take(func(q impl.TransmitQueue) int { return len(q.Messages) - 1 }), take(func(q impl.TransmitQueue) int { return len(q.Messages) }), take(func(q impl.TransmitQueue) int { return -1 }),
		expire(0), expire(1000), expire(1001), expire(1005), expire(math.MaxInt), expire(math.MinInt),
	}
}

// someQueues are valid and invalid queues with few and with many messages.
func someQueues() []impl.TransmitQueue {
	list := slices.Concat(validQueues(), farQueues())
	for i, q := range spoiltQueues() {
		if i%5 == 0 {
			list = append(list, q)
		}
	}
	return list
}

func TestFunctionsOfQueuesKeepTheirArguments(t *testing.T) {
	for _, want := range someQueues() {
		q := guarded(want)
		for _, c := range queueCalls() {
			left, m := c.call(q)
			spoilQueue(left)
			spoil(append(m.Body, 1))
			spoil(m.Body)
			checkGuarded(t, c.name, q, want)
		}
		impl.IsValidQueue(q)
		impl.NextMessage(q)
		impl.CountCategory(q, 2)
		impl.EqualQueues(q, q)
		impl.EqualQueues(q, impl.TransmitQueue{Dropped: q.Dropped})
		checkGuarded(t, "a function of queues", q, want)
	}
}

func TestEnqueueMessageKeepsItsMessage(t *testing.T) {
	for _, q := range someQueues() {
		for _, m := range []impl.Message{{}, numberedMessage(40, 0), numberedMessage(40, 3), {Category: 2, Body: allBytes()[:100]}, {Category: 2, Body: allBytes()[:101]}, {To: -1, Body: []byte("body")}} {
			given := m
			given.Body = withSpare(m.Body...)
			impl.IsValidMessage(given)
			one, two := impl.EnqueueMessage(q, given), impl.EnqueueMessage(q, given)
			want := cloned(two)
			spoilQueue(one)
			checkSpare(t, "EnqueueMessage", given.Body, m.Body...)
			spoil(given.Body)
			if !sameQueue(two, want) {
				t.Errorf("the queue shares memory with its new message %v: %v", m, two)
			}
		}
	}
}

func TestAnswersOfQueuesShareNoMemory(t *testing.T) {
	for _, given := range someQueues() {
		q := guarded(given)
		for _, c := range queueCalls() {
			left, m := c.call(q)
			wantLeft, wantM := cloned(left), m
			wantM.Body = slices.Clone(m.Body)
			other, otherM := c.call(q)
			spoilQueue(other)
			spoil(otherM.Body)
			if !sameQueue(left, wantLeft) || !sameMessage(m, wantM) {
				t.Fatalf("two answers of %s of %v share memory: %v, %v", c.name, given, left, m)
			}
			argument := guarded(given)
			left, m = c.call(argument)
			spoilQueue(argument)
			if !sameQueue(left, wantLeft) || !sameMessage(m, wantM) {
				t.Fatalf("the answer of %s shares memory with its argument %v: %v, %v", c.name, given, left, m)
			}
		}
	}
}

// sharingQueues are queues in which several bodies are the same memory, or parts of it.
func sharingQueues() []impl.TransmitQueue {
	list := []impl.TransmitQueue{}
	memory := allBytes()
	for _, count := range []int{1, 2, 5, 11, 12, 13} {
		same, parts := queueOf(0, make([]int, count)...), queueOf(0, make([]int, count)...)
		for i := range count {
			same.Messages[i].Body, parts.Messages[i].Body = memory[:20], memory[i:i+10]
		}
		list = append(list, same, parts)
	}
	return list
}

// Of one answer, no two bodies share memory, whatever the arguments share, nor does a body reach into the capacity of another one.
func TestBodiesOfOneAnswerShareNoMemory(t *testing.T) {
	for _, q := range append(sharingQueues(), someQueues()...) {
		calls := queueCalls()
		if len(q.Messages) > 0 && len(q.Messages) <= 13 {
			calls = append(calls, enqueueCall(impl.Message{To: 1, Category: 3, Deadline: 5, Body: q.Messages[0].Body}))
		}
		for _, c := range calls {
			left, m := c.call(q)
			all := append(slices.Clone(left.Messages), m)
			want := cloned(impl.TransmitQueue{Messages: all}).Messages
			if len(all) > 30 {
				all = all[len(all)-30:]
				want = want[len(want)-30:]
			}
			for i := range all {
				spoil(append(all[i].Body, 1))
				spoil(all[i].Body)
				rest := without(all, i)
				if !slices.EqualFunc(rest, without(want, i), sameMessage) {
					t.Fatalf("bodies of %s of %v share memory: %v", c.name, q, all)
				}
				copy(all[i].Body, want[i].Body)
			}
		}
	}
}

// The calls between two equal calls change nothing, neither the arguments nor what was returned.
func TestQueuesKeepNoState(t *testing.T) {
	type answers struct {
		queues   []impl.TransmitQueue
		messages []impl.Message
		numbers  []int
		valid    bool
	}
	ask := func(q impl.TransmitQueue) answers {
		a := answers{valid: impl.IsValidQueue(q), numbers: []int{impl.NextMessage(q)}}
		for category := range 4 {
			a.numbers = append(a.numbers, impl.CountCategory(q, category))
		}
		for _, c := range queueCalls() {
			left, m := c.call(q)
			a.queues, a.messages = append(a.queues, left), append(a.messages, m)
		}
		return a
	}
	same := func(a answers, b answers) bool {
		return a.valid == b.valid && slices.Equal(a.numbers, b.numbers) && slices.EqualFunc(a.queues, b.queues, sameQueue) && slices.EqualFunc(a.messages, b.messages, sameMessage)
	}
	kept := func(a answers) answers {
		a.queues, a.messages = slices.Clone(a.queues), cloned(impl.TransmitQueue{Messages: a.messages}).Messages
		for i := range a.queues {
			a.queues[i] = cloned(a.queues[i])
		}
		return a
	}
	list, first, want := someQueues(), []answers{}, []answers{}
	for _, q := range list {
		a := ask(q)
		first, want = append(first, a), append(want, kept(a))
	}
	for i, q := range slices.Backward(list) {
		// Memory of another capacity is no other argument.
		for _, again := range []impl.TransmitQueue{q, guarded(q)} {
			if !same(ask(again), want[i]) {
				t.Errorf("the answers for %v changed", q)
			}
		}
	}
	if !slices.EqualFunc(first, want, same) {
		t.Error("answers were changed by later calls")
	}
}
