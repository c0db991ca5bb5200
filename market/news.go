package market

import (
	"math"

	"bathyal/api"
)

// isPost reports whether a post of news is as defined.
func isPost(p api.MarketPost) bool {
	return isDay(p.Day) && within(p.Price, 0, api.MarketPrice)
}

// isDay reports whether a number is that of a day.
func isDay(day int) bool { return within(day, 0, api.MarketDays) }

// isNews reports whether news is as defined.
func isNews(n api.MarketNews) bool {
	return within(n.Drift, 0, api.MarketDrift) && within(len(n.Posts), 1, api.MarketPosts) && all(n.Posts, isPost)
}

// apart returns how far two numbers are from each other, none of which is less than 0.
func apart(a, b int) int { return max(a-b, b-a) }

// left returns the prices of a day that no post rules out, and gives up if there is none.
func left(n api.MarketNews, day int) api.Span {
	var around []api.Span
	for _, p := range n.Posts {
		most := n.Drift * apart(day, p.Day)
		around = append(around, api.Span{Low: p.Price - most, High: p.Price + most})
	}
	return narrowed(api.Span{Low: 0, High: math.MaxInt}, around...)
}

// bounds returns between which bounds the price of a day lies, and gives up if no prices are true. News that contradicts itself leaves no price on the day of a post, but can leave some on other days.
func bounds(n api.MarketNews, day int) api.Span {
	for _, p := range n.Posts {
		left(n, p.Day)
	}
	return left(n, day)
}

// Price returns between which bounds the price of a day lies.
func Price(n api.MarketNews, day int) (api.Span, api.Errno) {
	if !isNews(n) || !isDay(day) {
		return api.Span{}, api.ErrArg
	}
	var found api.Span
	e := attempt(func() { found = bounds(n, day) })
	return found, e
}

// areTrue reports whether prices are true.
func areTrue(n api.MarketNews, prices []int) bool {
	for day := range api.MarketDays {
		if apart(prices[day], prices[day+1]) > n.Drift {
			return false
		}
	}
	return all(n.Posts, func(p api.MarketPost) bool { return prices[p.Day] == p.Price })
}

// arePrices reports whether a list has a number for each day, none of which is less than 0.
func arePrices(list []int) bool {
	return len(list) == api.MarketDays+1 && all(list, func(n int) bool { return n >= 0 })
}

// Moves reports whether prices are true.
func Moves(n api.MarketNews, prices []int) (bool, api.Errno) {
	if !isNews(n) || !arePrices(prices) {
		return false, api.ErrArg
	}
	return areTrue(n, prices), api.OK
}
