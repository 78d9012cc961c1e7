package pound_test

import (
	"fmt"
	"maps"
	"regexp"
	"slices"
	"strconv"
	"strings"

	"couchant/api"
)

// This file says the chapter's words a second time: of postings and rolls, and of what a reeve does, without a disk.

// used tells which of the fields Case, Of and By a kind of postings uses (By if it is not zero).
var used = map[uint8]string{api.PostFine: "Case", api.PostFee: "Case", api.PostTake: "Of", api.PostPay: "Of By", api.PostWaive: "Of"}

// isWellFormed tells whether a posting of one of n reeves is well-formed.
func isWellFormed(n int, p api.Posting) bool {
	from := func(x, low, high int) bool { return x >= low && x <= high }
	uses, is := used[p.Kind]
	if !is || n != 3 && n != 5 {
		return false
	}
	right := from(p.Reeve, 0, n-1) && from(p.Number, 1, 300) && from(p.Tick, 0, 100000) && from(p.Owner, 1, 40) && from(p.Amount, 1, 1000000)
	if strings.Contains(uses, "Case") {
		right = right && from(p.Case, 1, 1000000) && p.Case%n == p.Reeve
	} else {
		right = right && p.Case == 0
	}
	isRef := func(x api.Ref) bool { return from(x.Reeve, 0, n-1) && from(x.Number, 1, 300) }
	switch {
	case !strings.Contains(uses, "Of"):
		right = right && p.Of == api.Ref{}
	case p.Kind == api.PostTake:
		right = right && isRef(p.Of) && p.Of.Reeve != p.Reeve
	default:
		right = right && isRef(p.Of) && p.Of.Reeve == p.Reeve && p.Of.Number < p.Number
	}
	if p.By != (api.Ref{}) {
		right = right && strings.Contains(uses, "By") && isRef(p.By) && p.By.Reeve != p.Reeve
	}
	return right
}

// checked returns what CheckRoll returns.
func checked(n int, l []api.Posting) (int, api.Errno) {
	if n != 3 && n != 5 {
		return 0, api.ErrArg
	}
	for i, p := range l {
		if e := refusedAt(n, l[:i], p); e != api.OK {
			return i, e
		}
	}
	return 0, api.OK
}

// refusedAt returns why a posting cannot follow others.
func refusedAt(n int, l []api.Posting, p api.Posting) api.Errno {
	if !isWellFormed(n, p) {
		return api.ErrArg
	}
	follows := p.Number == 1
	if len(l) > 0 {
		last := l[len(l)-1]
		follows = p.Reeve == last.Reeve && p.Number == last.Number+1 || p.Reeve > last.Reeve && p.Number == 1
	}
	if !follows {
		return api.ErrState
	}
	var charge *api.Posting
	for i, q := range l {
		if q.Reeve != p.Reeve {
			continue
		}
		if q.Kind == p.Kind && q.Case == p.Case && q.Kind <= api.PostFee {
			return api.ErrTwice
		}
		if q.Kind == api.PostPay && q.By == p.By && p.Kind == api.PostPay && p.By.Number != 0 {
			return api.ErrTwice
		}
		if q.Number == p.Of.Number && q.Kind <= api.PostFee {
			charge = &l[i]
		}
	}
	if p.Kind < api.PostPay {
		return api.OK
	}
	if charge == nil || charge.Owner != p.Owner {
		return api.ErrNone
	}
	if p.By.Number == 0 && p.Amount > owedOf(l, p.Of) {
		return api.ErrState
	}
	return api.OK
}

// found returns the charge of a valid roll that has a name.
func found(l []api.Posting, of api.Ref) (api.Posting, bool) {
	for _, p := range l {
		if p.Reeve == of.Reeve && p.Number == of.Number {
			return p, p.Kind == api.PostFine || p.Kind == api.PostFee
		}
	}
	return api.Posting{}, false
}

// owedOf returns what is owed for a charge of a valid roll.
func owedOf(l []api.Posting, of api.Ref) int {
	charge, _ := found(l, of)
	sum := charge.Amount
	for _, p := range l {
		if (p.Kind == api.PostPay || p.Kind == api.PostWaive) && p.Of == of {
			sum -= p.Amount
		}
	}
	return max(sum, 0)
}

// unsettledOf returns the Refs that Unsettled returns for a valid roll.
func unsettledOf(l []api.Posting, reeve int) []api.Ref {
	var refs []api.Ref
	for _, p := range l {
		if p.Kind != api.PostTake || p.Of.Reeve != reeve {
			continue
		}
		charge, is := found(l, p.Of)
		paid := slices.ContainsFunc(l, func(q api.Posting) bool {
			return q.Reeve == reeve && q.Kind == api.PostPay && q.By.Reeve == p.Reeve && q.By.Number == p.Number
		})
		if is && charge.Owner == p.Owner && !paid {
			refs = append(refs, ref(p.Reeve, p.Number))
		}
	}
	return refs
}

// transfer returns what TransferOf returns for a well-formed posting.
func transfer(p api.Posting) api.Transfer {
	x := api.Transfer{Amount: p.Amount}
	switch p.Kind {
	case api.PostFine, api.PostFee:
		x.Debit, x.Credit = p.Owner, 0
	case api.PostTake:
		x.Debit, x.Credit = 100+p.Reeve, 200
	case api.PostPay:
		x.Debit, x.Credit = 200, p.Owner
		if p.By.Number == 0 {
			x.Debit = 100 + p.Reeve
		}
	case api.PostWaive:
		x.Debit, x.Credit = 0, p.Owner
	}
	return x
}

// balanceOf returns the balance of an account in a valid roll.
func balanceOf(l []api.Posting, account int) int {
	sum := 0
	for _, p := range l {
		x := transfer(p)
		for _, side := range []struct{ account, sign int }{{x.Debit, 1}, {x.Credit, -1}} {
			if side.account == account {
				sum += side.sign * x.Amount
			}
		}
	}
	return sum
}

const (
	numeral = ` (0|[1-9][0-9]*)`
	beast   = ` ([a-z][-a-z0-9]{0,23})`
)

// forms are those of postings, with a blank before them, and of messages without their line feed.
var forms = map[string]*regexp.Regexp{
	"fine": regexp.MustCompile(`^` + numeral + numeral + numeral + ` fine` + numeral + numeral + numeral + `$`),
	"fee":  regexp.MustCompile(`^` + numeral + numeral + numeral + ` fee` + numeral + numeral + numeral + `$`),
	"take": regexp.MustCompile(`^` + numeral + numeral + numeral + ` take` + numeral + numeral + numeral + numeral + `$`),
	"pay":  regexp.MustCompile(`^` + numeral + numeral + numeral + ` pay` + numeral + numeral + numeral + `(?: by` + numeral + numeral + `)?$`),
	"waive": regexp.MustCompile(`^` + numeral + numeral + numeral + ` waive` + numeral + numeral + numeral +
		`$`),
	"have": regexp.MustCompile(`^have((?:` + numeral + `)*)$`),
	"post": regexp.MustCompile(`^post` + numeral + `$`),
	"ask":  regexp.MustCompile(`^ask` + numeral + numeral + beast + numeral + `$`),
	"give": regexp.MustCompile(`^give` + numeral + numeral + numeral + `$`),
	"free": regexp.MustCompile(`^free` + numeral + numeral + beast + `$`),
}

// figures returns the parts of a line that has a form as numbers (-1 for one that is none, or too great), and whether it has it.
func figures(form, line string) ([]int, bool) {
	parts := forms[form].FindStringSubmatch(line)
	var l []int
	for _, part := range parts[min(1, len(parts)):] {
		n, e := strconv.Atoi(part)
		if e != nil {
			n = -1
		}
		l = append(l, n)
	}
	return l, parts != nil
}

// readLine returns the well-formed posting with a line, and whether there is one.
func readLine(n int, line string) (api.Posting, bool) {
	for kind, form := range map[uint8]string{api.PostFine: "fine", api.PostFee: "fee", api.PostTake: "take", api.PostPay: "pay", api.PostWaive: "waive"} {
		x, is := figures(form, " "+line)
		if !is {
			continue
		}
		p := api.Posting{Reeve: x[0], Number: x[1], Tick: x[2], Kind: kind}
		switch kind {
		case api.PostFine, api.PostFee:
			p.Case, p.Owner, p.Amount = x[3], x[4], x[5]
		case api.PostTake:
			p.Of, p.Owner, p.Amount = ref(x[3], x[4]), x[5], x[6]
		default:
			p.Of, p.Owner, p.Amount = ref(x[0], x[3]), x[4], x[5]
			if strings.Contains(line, "by") {
				p.By = ref(x[6], x[7])
				if x[7] == 0 { // it would not be written
					return api.Posting{}, false
				}
			}
		}
		return p, isWellFormed(n, p)
	}
	return api.Posting{}, false
}

// heard is what a message says.
type heard struct {
	form  string
	words []int
	tag   string
	post  []api.Posting
}

// readText returns what a message says, and whether it has one of the forms.
func readText(n int, text string) (heard, bool) {
	lines := strings.Split(text, "\n")
	if len(lines) < 2 || lines[len(lines)-1] != "" {
		return heard{}, false
	}
	lines = lines[:len(lines)-1]
	form, rest, _ := strings.Cut(lines[0], " ")
	x := heard{form: form}
	if !slices.Contains([]string{"have", "post", "ask", "give", "free"}, form) {
		return heard{}, false
	}
	words, is := figures(form, lines[0])
	if form == "have" {
		words = nil
		for _, word := range strings.Fields(rest) {
			number, e := strconv.Atoi(word)
			is = is && e == nil && number <= 300
			words = append(words, number)
		}
	}
	x.words = words
	if !is || form != "post" && len(lines) != 1 {
		return heard{}, false
	}
	isReeve := func(k int) bool { return words[k] >= 0 && words[k] < n }
	isRequest := func(k int) bool { return words[k] >= 1 && words[k] <= 300 }
	switch form {
	case "have":
		return x, len(words) == n
	case "give":
		return x, isReeve(0) && isReeve(1) && isRequest(2)
	case "ask":
		x.tag = strings.Fields(rest)[2]
		return x, isReeve(0) && isRequest(1) && words[3] >= 0 && words[3] <= 100000
	case "free":
		x.tag = strings.Fields(rest)[2]
		return x, isReeve(0) && isRequest(1)
	}
	if words[0] != len(lines)-1 || words[0] < 1 || words[0] > 10 {
		return heard{}, false
	}
	for i, line := range lines[1:] {
		p, is := readLine(n, line)
		if !is || i > 0 && slices.Compare(key(x.post[i-1]), key(p)) >= 0 {
			return heard{}, false
		}
		x.post = append(x.post, p)
	}
	return x, true
}

// key returns what names a posting.
func key(p api.Posting) []int { return []int{p.Reeve, p.Number} }

// model is what a reeve knows.
type model struct {
	self, n  int
	requests []api.Request // all that there were
	open     map[int]bool
	given    map[int]map[int]bool
	freed    map[string]bool
	promises map[string]api.Promise
	holds    []api.Hold
	roll     []api.Posting
}

func newModel(self, n int) *model {
	return &model{self: self, n: n, open: map[int]bool{}, given: map[int]map[int]bool{}, freed: map[string]bool{}, promises: map[string]api.Promise{}}
}

// copy returns a model that shares no memory.
func (m *model) copy() *model {
	x := *m
	x.requests, x.holds, x.roll = slices.Clone(m.requests), slices.Clone(m.holds), slices.Clone(m.roll)
	x.open, x.freed, x.promises = maps.Clone(m.open), maps.Clone(m.freed), maps.Clone(m.promises)
	x.given = map[int]map[int]bool{}
	for number, given := range m.given {
		x.given[number] = maps.Clone(given)
	}
	return &x
}

// forget forgets what a crash does.
func (m *model) forget() { m.given = map[int]map[int]bool{} }

// state returns what stateOf returns for a reeve.
func (m *model) state(ticks ...int) string {
	var asks []api.Request
	for _, x := range m.requests {
		if m.open[x.Number] {
			asks = append(asks, x)
		}
	}
	var stock api.Stock
	for i := range m.n {
		stock.Have[i] = m.has(i)
	}
	s := fmt.Sprintln(asks, m.roll, stock)
	for _, now := range ticks {
		s += fmt.Sprintln(now, m.inForce(now), m.holding(now), m.letters(now))
	}
	return s
}

// has returns how many postings of a reeve there are.
func (m *model) has(reeve int) int {
	count := 0
	for _, p := range m.roll {
		if p.Reeve == reeve {
			count++
		}
	}
	return count
}

func (m *model) inForce(now int) []api.Promise {
	var l []api.Promise
	for _, p := range m.promises {
		if now <= p.Until {
			l = append(l, p)
		}
	}
	slices.SortFunc(l, func(a, b api.Promise) int { return strings.Compare(a.Tag, b.Tag) })
	return l
}

func (m *model) holding(now int) []api.Hold {
	var l []api.Hold
	for _, h := range m.holds {
		if h.From <= now && now <= h.Until {
			l = append(l, h)
		}
	}
	slices.SortFunc(l, func(a, b api.Hold) int {
		if a.Tag == b.Tag {
			return a.Number - b.Number
		}
		return strings.Compare(a.Tag, b.Tag)
	})
	return l
}

func (m *model) greeting() string {
	s := "have"
	for i := range m.n {
		s += fmt.Sprintf(" %d", m.has(i))
	}
	return s + "\n"
}

func (m *model) letters(now int) []string {
	l := []string{m.greeting()}
	last := map[string]api.Request{}
	for _, x := range m.requests {
		last[x.Tag] = x
		if m.open[x.Number] && x.Until >= now {
			l = append(l, fmt.Sprintf("ask %d %d %s %d\n", m.self, x.Number, x.Tag, x.Until))
		}
	}
	for _, tag := range slices.Sorted(maps.Keys(m.freed)) {
		if last[tag].Until >= now {
			l = append(l, fmt.Sprintf("free %d %d %s\n", m.self, last[tag].Number, tag))
		}
	}
	return l
}

// action is a call of one of the operations.
type action struct {
	name                         string
	tag                          string
	until, now                   int
	kind                         uint8
	number, owner, amount, calls int
	of                           api.Ref
	text                         string
}

// outcome is what an operation returns, and what it would cost (0 if it changes nothing durable).
type outcome struct {
	number int
	answer string
	e      api.Errno
	cost   int
}

// do does what an action does on a disk that has room and is not down; the model has to be a copy, as it changes with errors also.
func (m *model) do(a action) outcome {
	number, answer, e, cost := 0, "", api.OK, 8
	switch a.name {
	case "Want":
		number, e = m.want(a)
	case "Free":
		e = m.free(a)
	case "Charge":
		number, e = m.charge(a)
	case "Pay":
		number, e = m.lessen(a)
	case "Waive":
		number, e = m.lessen(a)
	case "Settle":
		number, e = m.settle(a)
	case "Hear":
		answer, cost, e = m.hear(a)
	}
	if e != api.OK {
		return outcome{e: e}
	}
	return outcome{number: number, answer: answer, cost: cost}
}

func outside(n, low, high int) bool { return n < low || n > high }

var tagForm = regexp.MustCompile(`^[a-z][-a-z0-9]{0,23}$`)

// toAnother tells whether the own promise for a beast is in force and to another reeve.
func (m *model) toAnother(tag string, reeve, now int) bool {
	p, is := m.promises[tag]
	return is && now <= p.Until && p.To != reeve
}

// promise makes the own promise for a beast one to a reeve and tells whether it was so before.
func (m *model) promise(tag string, reeve, number, until, now int) bool {
	p, is := m.promises[tag]
	if is && p.To == reeve && now <= p.Until && p.Until > until {
		until = p.Until
	}
	m.promises[tag] = api.Promise{Tag: tag, To: reeve, Number: number, Until: until}
	return is && p == m.promises[tag]
}

func (m *model) want(a action) (int, api.Errno) {
	if outside(a.now, 0, 100000) || !tagForm.MatchString(a.tag) || a.until < a.now || a.until > 100000 {
		return 0, api.ErrArg
	}
	if m.toAnother(a.tag, m.self, a.now) {
		return 0, api.ErrHeld
	}
	if len(m.requests) >= 300 {
		return 0, api.ErrLimit
	}
	for _, x := range m.requests {
		if x.Tag == a.tag {
			m.open[x.Number] = false
		}
	}
	x := api.Request{Number: len(m.requests) + 1, Tag: a.tag, Until: a.until}
	m.requests = append(m.requests, x)
	m.open[x.Number] = true
	m.freed[a.tag] = false
	delete(m.freed, a.tag)
	m.promise(a.tag, m.self, x.Number, a.until, a.now)
	return x.Number, api.OK
}

func (m *model) free(a action) api.Errno {
	if outside(a.now, 0, 100000) {
		return api.ErrArg
	}
	lets := false
	for i, h := range m.holds {
		if h.Tag == a.tag && h.From <= a.now && a.now <= h.Until {
			m.holds[i].Until, lets = a.now-1, true
		}
	}
	for _, x := range m.requests {
		if x.Tag == a.tag && m.open[x.Number] {
			m.open[x.Number], lets = false, true
		}
	}
	if !lets {
		return api.ErrNone
	}
	if m.promises[a.tag].To == m.self {
		delete(m.promises, a.tag)
	}
	m.freed[a.tag] = true
	return api.OK
}

// add makes an own posting.
func (m *model) add(p api.Posting) (int, api.Errno) {
	p.Reeve, p.Number = m.self, m.has(m.self)+1
	if p.Number > 300 {
		return 0, api.ErrLimit
	}
	m.put(p)
	return p.Number, api.OK
}

// put puts a posting where it belongs.
func (m *model) put(p api.Posting) {
	m.roll = append(m.roll, p)
	slices.SortFunc(m.roll, func(a, b api.Posting) int { return slices.Compare(key(a), key(b)) })
}

func (m *model) charge(a action) (int, api.Errno) {
	if outside(a.now, 0, 100000) || a.kind != api.PostFine && a.kind != api.PostFee || outside(a.number, 1, 1000000) || outside(a.owner, 1, 40) || outside(a.amount, 1, 1000000) {
		return 0, api.ErrArg
	}
	if a.number%m.n != m.self {
		return 0, api.ErrHome
	}
	for _, p := range m.roll {
		if p.Kind == a.kind && p.Case == a.number {
			return 0, api.ErrTwice
		}
	}
	return m.add(api.Posting{Tick: a.now, Kind: a.kind, Case: a.number, Owner: a.owner, Amount: a.amount})
}

func (m *model) lessen(a action) (int, api.Errno) {
	if outside(a.now, 0, 100000) || outside(a.of.Reeve, 0, m.n-1) || outside(a.of.Number, 1, 300) || outside(a.amount, 1, 1000000) {
		return 0, api.ErrArg
	}
	charge, is := found(m.roll, a.of)
	if !is {
		return 0, api.ErrNone
	}
	if a.name == "Waive" && a.of.Reeve != m.self {
		return 0, api.ErrHome
	}
	left := owedOf(m.roll, a.of)
	if a.of.Reeve != m.self {
		for _, x := range unsettledOf(m.roll, a.of.Reeve) {
			for _, p := range m.roll {
				if ref(p.Reeve, p.Number) == x && p.Of == a.of {
					left -= p.Amount
				}
			}
		}
	}
	if a.amount > left {
		return 0, api.ErrState
	}
	p := api.Posting{Tick: a.now, Kind: api.PostPay, Of: a.of, Owner: charge.Owner, Amount: a.amount}
	switch {
	case a.name == "Waive":
		p.Kind = api.PostWaive
	case a.of.Reeve != m.self:
		p.Kind = api.PostTake
	}
	return m.add(p)
}

func (m *model) settle(a action) (int, api.Errno) {
	if outside(a.now, 0, 100000) {
		return 0, api.ErrArg
	}
	refs := unsettledOf(m.roll, m.self)
	if len(refs) == 0 {
		return 0, api.ErrNone
	}
	at := slices.IndexFunc(m.roll, func(p api.Posting) bool { return ref(p.Reeve, p.Number) == refs[0] })
	take := m.roll[at]
	if _, e := m.add(api.Posting{Tick: a.now, Kind: api.PostPay, Of: take.Of, By: refs[0], Owner: take.Owner, Amount: take.Amount}); e != api.OK {
		return 0, e
	}
	return len(refs) - 1, api.OK
}

// hear returns the answer to a message, what it costs, and its error.
func (m *model) hear(a action) (string, int, api.Errno) {
	if outside(a.now, 0, 100000) {
		return "", 0, api.ErrArg
	}
	x, is := readText(m.n, a.text)
	if !is {
		return "", 0, api.ErrForm
	}
	w := x.words
	switch x.form {
	case "have":
		return m.greeted(w), 0, api.OK
	case "post":
		return m.told(x.post)
	case "ask":
		if w[0] == m.self {
			return "", 0, api.ErrState
		}
		p, is := m.promises[x.tag]
		if w[3] < a.now || m.toAnother(x.tag, w[0], a.now) || is && p.To == w[0] && p.Number > w[1] {
			return "", 0, api.OK
		}
		cost := 8
		if m.promise(x.tag, w[0], w[1], w[3], a.now) {
			cost = 0
		}
		return fmt.Sprintf("give %d %d %d\n", m.self, w[0], w[1]), cost, api.OK
	case "give":
		return m.gives(w[0], w[1], w[2], a.now)
	}
	if w[0] == m.self {
		return "", 0, api.ErrState
	}
	if p, is := m.promises[x.tag]; !is || p.To != w[0] || p.Number > w[1] {
		return "", 0, api.OK
	}
	delete(m.promises, x.tag)
	return "", 8, api.OK
}

func (m *model) greeted(numbers []int) string {
	var lines []string
	more := false
	for _, p := range m.roll {
		if p.Number > numbers[p.Reeve] && len(lines) < 10 {
			line, _ := writeLine(p)
			lines = append(lines, line)
		}
	}
	for reeve, number := range numbers {
		more = more || number > m.has(reeve)
	}
	switch {
	case len(lines) > 0:
		return post(lines...)
	case more:
		return m.greeting()
	}
	return ""
}

// writeLine returns the line of a well-formed posting, and the word of its kind.
func writeLine(p api.Posting) (string, string) {
	before := fmt.Sprintf("%d %d %d ", p.Reeve, p.Number, p.Tick)
	behind := fmt.Sprintf(" %d %d", p.Owner, p.Amount)
	switch p.Kind {
	case api.PostFine:
		return fmt.Sprint(before, "fine ", p.Case, behind), "fine"
	case api.PostFee:
		return fmt.Sprint(before, "fee ", p.Case, behind), "fee"
	case api.PostTake:
		return before + fmt.Sprintf("take %d %d", p.Of.Reeve, p.Of.Number) + behind, "take"
	case api.PostWaive:
		return fmt.Sprint(before, "waive ", p.Of.Number, behind), "waive"
	}
	if p.By.Number > 0 {
		behind += fmt.Sprintf(" by %d %d", p.By.Reeve, p.By.Number)
	}
	return fmt.Sprint(before, "pay ", p.Of.Number, behind), "pay"
}

func (m *model) told(l []api.Posting) (string, int, api.Errno) {
	cost := 0
	for _, p := range l {
		at := slices.IndexFunc(m.roll, func(q api.Posting) bool { return slices.Equal(key(p), key(q)) })
		switch {
		case at >= 0 && m.roll[at] == p:
		case at >= 0 || p.Reeve == m.self:
			return "", 0, api.ErrState
		case p.Number == m.has(p.Reeve)+1:
			m.put(p)
			if _, e := checked(m.n, m.roll); e != api.OK {
				return "", 0, api.ErrState
			}
			cost += 4
		}
	}
	if cost == 0 {
		return "", 0, api.OK
	}
	return m.greeting(), cost + 4, api.OK
}

func (m *model) gives(giver, to, number, now int) (string, int, api.Errno) {
	if to != m.self || giver == m.self {
		return "", 0, api.ErrState
	}
	if !m.open[number] || m.requests[number-1].Until < now {
		return "", 0, api.OK
	}
	if m.given[number] == nil {
		m.given[number] = map[int]bool{}
	}
	m.given[number][giver] = true
	if 2*(len(m.given[number])+1) <= m.n {
		return "", 0, api.OK
	}
	x := m.requests[number-1]
	m.holds = append(m.holds, api.Hold{Tag: x.Tag, From: now, Until: x.Until, Number: number})
	m.open[number] = false
	return "", 8, api.OK
}
