package impl

import (
	"cmp"
	"errors"
	"maps"
	"slices"
)

const (
	MaxAccounts = 12
	MaxHolds    = 10
	MaxSeen     = 40
	MaxId       = 1000000000
	LcOpen      = 1
	LcPost      = 2
	LcHold      = 3
	LcTake      = 4
	LcDrop      = 5
	LgDone      = 0
	LgWrong     = 1
	LgForm      = 2
	LgFull      = 3
	LgSame      = 4
	LgNone      = 5
	LgCur       = 6
	LgLimit     = 7
	LgRange     = 8
	LgHold      = 9
)

type Account struct {
	Name   string
	Cur    string
	Limit  int64
	Posted int64
}

type Hold struct {
	Id     int64
	From   string
	To     string
	Amount int64
}

type Answered struct {
	Id   int64
	Code int64
}

type Ledger struct {
	Accounts []Account
	Holds    []Hold
	Seen     []Answered
}

type Command struct {
	Id     int64
	Kind   int64
	From   string
	To     string
	Amount int64
	Ref    int64
}

// noLimit is the Limit of an account that has none.
const noLimit = -1

// A refusal wraps one of these: they part what is put into Seen from what is not.
var (
	errAside  = errors.New("the command was put aside")
	errDenied = errors.New("the command was denied")
)

type refusal struct {
	code int64
	why  error
}

func (r *refusal) Error() string {
	return r.why.Error() + ": code " + decimal(r.code)
}

func (r *refusal) Unwrap() error {
	return r.why
}

func aside(code int64) error {
	return &refusal{code, errAside}
}

func denied(code int64) error {
	return &refusal{code, errDenied}
}

func codeOf(err error) int64 {
	var r *refusal
	if errors.As(err, &r) {
		return r.code
	}
	return LgDone
}

// A book is a copy of a ledger in which an account is found by its name and
// changed in place; the ledger itself is never written to.
type book struct {
	accounts map[string]*Account
	holds    []Hold
	seen     []Answered
}

func bookOf(l Ledger) *book {
	b := &book{map[string]*Account{}, slices.Clone(l.Holds), slices.Clone(l.Seen)}
	for _, a := range l.Accounts {
		own := a
		b.accounts[a.Name] = &own
	}
	return b
}

// ledger gives the book's lists away: the book is not used behind it.
func (b *book) ledger() Ledger {
	l := Ledger{Holds: b.holds, Seen: b.seen}
	for _, name := range slices.Sorted(maps.Keys(b.accounts)) {
		l.Accounts = append(l.Accounts, *b.accounts[name])
	}
	return l
}

func LedgerOk(l Ledger) bool {
	// The lists' lengths come first, so that one without end costs nothing;
	// the accounts come ahead of the book, in which two of one name are one.
	if len(l.Accounts) > MaxAccounts || len(l.Holds) > MaxHolds || len(l.Seen) > MaxSeen {
		return false
	}
	if !accountsOk(l.Accounts) || !seenOk(l.Seen, ledgerCode) {
		return false
	}
	b := bookOf(l)
	return b.holdsOk() && b.balancesOk()
}

func numberOk(n int64) bool {
	return within(n, 1, MaxId)
}

func accountsOk(list []Account) bool {
	for i, a := range list {
		if i > 0 && list[i-1].Name >= a.Name {
			return false
		}
		if !NameOk(a.Name) || !CurOk(a.Cur) {
			return false
		}
		if !within(a.Limit, noLimit, MaxAmount) || !within(a.Posted, -MaxAmount, MaxAmount) {
			return false
		}
	}
	return true
}

func seenOk(list []Answered, codeOk func(code int64) bool) bool {
	for i, s := range list {
		if i > 0 && list[i-1].Id >= s.Id {
			return false
		}
		if !numberOk(s.Id) || !codeOk(s.Code) {
			return false
		}
	}
	return true
}

func ledgerCode(code int64) bool {
	return code == LgDone || within(code, LgSame, LgHold)
}

func (b *book) holdsOk() bool {
	for i, h := range b.holds {
		if i > 0 && b.holds[i-1].Id >= h.Id {
			return false
		}
		if !numberOk(h.Id) || !within(h.Amount, 1, MaxAmount) || h.From == h.To {
			return false
		}
		if _, _, err := b.pair(h.From, h.To); err != nil {
			return false
		}
	}
	return true
}

func (b *book) balancesOk() bool {
	for _, a := range b.accounts {
		if b.held(a.Name) > MaxAmount || !b.covers(a, 0) || b.total(a.Cur) != 0 {
			return false
		}
	}
	return true
}

func (b *book) held(name string) int64 {
	sum := int64(0)
	for _, h := range b.holds {
		if h.From == name {
			sum += h.Amount
		}
	}
	return sum
}

func (b *book) total(cur string) int64 {
	sum := int64(0)
	for _, a := range b.accounts {
		if a.Cur == cur {
			sum += a.Posted
		}
	}
	return sum
}

// covers asks whether a, with what is held of it, can part with amount more.
func (b *book) covers(a *Account, amount int64) bool {
	return a.Limit == noLimit || a.Posted-b.held(a.Name)-amount >= -a.Limit
}

func HeldOf(l Ledger, name string) int64 {
	if !LedgerOk(l) {
		return -1
	}
	b := bookOf(l)
	if b.accounts[name] == nil {
		return -1
	}
	return b.held(name)
}

func FreeOf(l Ledger, name string) int64 {
	if !LedgerOk(l) {
		return -1
	}
	b := bookOf(l)
	a := b.accounts[name]
	if a == nil {
		return -1
	}
	if a.Limit == noLimit {
		return MaxAmount
	}
	return min(a.Posted-b.held(name)+a.Limit, MaxAmount)
}

func TotalOf(l Ledger, cur string) int64 {
	if !LedgerOk(l) {
		return -1
	}
	return bookOf(l).total(cur)
}

func CommandOk(c Command) bool {
	if !numberOk(c.Id) {
		return false
	}
	switch c.Kind {
	case LcOpen:
		return NameOk(c.From) && CurOk(c.To) && within(c.Amount, noLimit, MaxAmount) && c.Ref == 0
	case LcPost, LcHold:
		return NameOk(c.From) && NameOk(c.To) && c.From != c.To && within(c.Amount, 1, MaxAmount) && c.Ref == 0
	case LcTake, LcDrop:
		return c.From == "" && c.To == "" && c.Amount == 0 && numberOk(c.Ref)
	}
	return false
}

func Applied(l Ledger, c Command) (Ledger, int64) {
	if !LedgerOk(l) {
		return Ledger{}, LgWrong
	}
	b := bookOf(l)
	err := b.admit(c)
	if err == nil {
		err = b.do(c)
	}
	code := codeOf(err)
	if !errors.Is(err, errAside) {
		b.note(c.Id, code)
	}
	return b.ledger(), code
}

// admit refuses what leaves the ledger as it is, its Seen too.
func (b *book) admit(c Command) error {
	if !CommandOk(c) {
		return aside(LgForm)
	}
	if i := b.seenPlace(c.Id); i >= 0 {
		return aside(b.seen[i].Code)
	}
	if b.full(c) {
		return aside(LgFull)
	}
	return nil
}

func (b *book) seenPlace(id int64) int {
	return slices.IndexFunc(b.seen, func(s Answered) bool { return s.Id == id })
}

func (b *book) holdPlace(id int64) int {
	return slices.IndexFunc(b.holds, func(h Hold) bool { return h.Id == id })
}

func (b *book) full(c Command) bool {
	switch {
	case len(b.seen) == MaxSeen:
		return true
	case c.Kind == LcOpen:
		return len(b.accounts) == MaxAccounts
	case c.Kind == LcHold:
		return len(b.holds) == MaxHolds || b.holdPlace(c.Id) >= 0
	}
	return false
}

func (b *book) note(id int64, code int64) {
	b.seen = append(b.seen, Answered{id, code})
	slices.SortFunc(b.seen, func(x Answered, y Answered) int { return cmp.Compare(x.Id, y.Id) })
}

func (b *book) do(c Command) error {
	switch c.Kind {
	case LcOpen:
		return b.open(Account{Name: c.From, Cur: c.To, Limit: c.Amount})
	case LcPost:
		return b.post(c.From, c.To, c.Amount)
	case LcHold:
		return b.hold(Hold{c.Id, c.From, c.To, c.Amount})
	case LcTake:
		return b.take(c.Ref)
	}
	return b.drop(c.Ref)
}

func (b *book) open(a Account) error {
	if b.accounts[a.Name] != nil {
		return denied(LgSame)
	}
	b.accounts[a.Name] = &a
	return nil
}

func (b *book) pair(from string, to string) (*Account, *Account, error) {
	giver, taker := b.accounts[from], b.accounts[to]
	if giver == nil || taker == nil {
		return nil, nil, denied(LgNone)
	}
	if giver.Cur != taker.Cur {
		return nil, nil, denied(LgCur)
	}
	return giver, taker, nil
}

func (b *book) post(from string, to string, amount int64) error {
	giver, taker, err := b.pair(from, to)
	if err != nil {
		return err
	}
	if giver.Posted-amount < -MaxAmount || taker.Posted+amount > MaxAmount {
		return denied(LgRange)
	}
	if !b.covers(giver, amount) {
		return denied(LgLimit)
	}
	giver.Posted -= amount
	taker.Posted += amount
	return nil
}

func (b *book) hold(h Hold) error {
	giver, _, err := b.pair(h.From, h.To)
	if err != nil {
		return err
	}
	if b.held(h.From)+h.Amount > MaxAmount {
		return denied(LgRange)
	}
	if !b.covers(giver, h.Amount) {
		return denied(LgLimit)
	}
	b.holds = append(b.holds, h)
	slices.SortFunc(b.holds, func(x Hold, y Hold) int { return cmp.Compare(x.Id, y.Id) })
	return nil
}

func (b *book) take(ref int64) error {
	i := b.holdPlace(ref)
	if i < 0 {
		return denied(LgHold)
	}
	h := b.holds[i]
	// The hold goes ahead of the post, or its Amount would be asked for twice.
	b.holds = slices.Delete(b.holds, i, i+1)
	err := b.post(h.From, h.To, h.Amount)
	if err != nil {
		b.holds = slices.Insert(b.holds, i, h)
	}
	return err
}

func (b *book) drop(ref int64) error {
	i := b.holdPlace(ref)
	if i < 0 {
		return denied(LgHold)
	}
	b.holds = slices.Delete(b.holds, i, i+1)
	return nil
}
